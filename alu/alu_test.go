package alu_test

import (
	"math"
	"math/big"
	"math/rand"
	"testing"

	"barbican/alu"
	"barbican/api"
)

var widths = []bool{false, true}

// edges are the numbers where a width, a sign or a count of bits turns over.
var edges = []uint64{
	0, 1, 2, 3, 5, 7, 30, 31, 32, 33, 62, 63, 64, 65, 96, 127, 128,
	1<<31 - 1, 1 << 31, 1<<31 + 1,
	1<<32 - 2, 1<<32 - 1, 1 << 32, 1<<32 + 1, 1<<32 + 31, 1<<32 + 32, 1<<32 + 33,
	3 << 31, 1<<33 - 1, 1 << 40, 1<<40 + 7, 0xfedcba9876543210, 0xffffffff00000000, 0xffffffff80000000,
	1<<63 - 1, 1 << 63, 1<<63 + 1, 1<<63 + 1<<31, 1<<63 + 1<<32, 1<<64 - 32, 1<<64 - 2, 1<<64 - 1,
}

// pairs are all pairs of the edges, and drawn ones: the same in each run.
func pairs() [][2]uint64 {
	var all [][2]uint64
	for _, a := range edges {
		for _, b := range edges {
			all = append(all, [2]uint64{a, b})
		}
	}
	draw := rand.New(rand.NewSource(1))
	for range 1000 {
		a, b := draw.Uint64(), draw.Uint64()>>draw.Intn(64)
		all = append(all, [2]uint64{a, b}, [2]uint64{b, a}, [2]uint64{a, a})
	}
	return all
}

func opsFrom(first, last api.Op) []api.Op {
	var l []api.Op
	for op := first; op <= last; op++ {
		l = append(l, op)
	}
	return l
}

// opsBeside are all operators that a call which takes those from first to last does not take.
func opsBeside(first, last api.Op) []api.Op {
	var l []api.Op
	for op := range 256 {
		if o := api.Op(op); o < first || o > last {
			l = append(l, o)
		}
	}
	return l
}

func bitsOf(narrow bool) uint {
	if narrow {
		return 32
	}
	return 64
}

func power(n uint) *big.Int {
	return new(big.Int).Lsh(big.NewInt(1), n)
}

func modulo(n *big.Int, width uint) *big.Int {
	return new(big.Int).Mod(n, power(width))
}

func cut(n uint64, width uint) *big.Int {
	return modulo(new(big.Int).SetUint64(n), width)
}

// signed reads n by the document's words: less 2^width, from half of that on.
func signed(n *big.Int, width uint) *big.Int {
	if n.Cmp(power(width-1)) < 0 {
		return n
	}
	return new(big.Int).Sub(n, power(width))
}

// wanted reckons with whole numbers, by the document's words.
func wanted(op api.Op, narrow bool, a, b uint64) (uint64, api.Errno) {
	width := bitsOf(narrow)
	x, y, n := cut(a, width), cut(b, width), new(big.Int)
	moved := uint(new(big.Int).Mod(y, big.NewInt(int64(width))).Uint64())
	switch op {
	case api.Add:
		n.Add(x, y)
	case api.Sub:
		n.Sub(x, y)
	case api.Mul:
		n.Mul(x, y)
	case api.Div, api.Mod:
		rest := new(big.Int)
		if y.Sign() == 0 {
			return 0, api.ErrDivide
		}
		if n.QuoRem(x, y, rest); op == api.Mod {
			n = rest
		}
	case api.And:
		n.And(x, y)
	case api.Or:
		n.Or(x, y)
	case api.Xor:
		n.Xor(x, y)
	case api.Shl:
		n.Mul(x, power(moved))
	case api.Shr:
		n.Quo(x, power(moved))
	case api.Sar:
		n.Div(signed(x, width), power(moved))
	case api.Mov:
		n.Set(y)
	case api.Neg:
		n.Neg(x)
	default:
		return 0, api.ErrArg
	}
	return modulo(n, width).Uint64(), api.OK
}

func wantedIs(op api.Op, narrow bool, a, b uint64) (bool, api.Errno) {
	width := bitsOf(narrow)
	x, y := cut(a, width), cut(b, width)
	order, signedOrder := x.Cmp(y), signed(x, width).Cmp(signed(y, width))
	switch op {
	case api.Jeq:
		return order == 0, api.OK
	case api.Jne:
		return order != 0, api.OK
	case api.Jgt:
		return order > 0, api.OK
	case api.Jge:
		return order >= 0, api.OK
	case api.Jlt:
		return order < 0, api.OK
	case api.Jle:
		return order <= 0, api.OK
	case api.Jsgt:
		return signedOrder > 0, api.OK
	case api.Jsge:
		return signedOrder >= 0, api.OK
	case api.Jslt:
		return signedOrder < 0, api.OK
	case api.Jsle:
		return signedOrder <= 0, api.OK
	case api.Jset:
		return new(big.Int).And(x, y).Sign() != 0, api.OK
	}
	return false, api.ErrArg
}

func TestDoByHand(t *testing.T) { // P1.1
	for _, c := range []struct {
		name   string
		op     api.Op
		narrow bool
		a, b   uint64
		want   uint64
		err    api.Errno
	}{
		{"example: sub", api.Sub, false, 3, 5, 1<<64 - 2, api.OK},
		{"example: sub, narrow", api.Sub, true, 3, 5, 1<<32 - 2, api.OK},
		{"example: sar, narrow", api.Sar, true, 1 << 31, 33, 3 << 30, api.OK},
		{"add over the end", api.Add, false, 1<<64 - 1, 2, 1, api.OK},
		{"add over the end, narrow", api.Add, true, 1<<32 - 1, 2, 1, api.OK},
		{"add cuts both", api.Add, true, 1<<40 + 3, 1<<50 + 4, 7, api.OK},
		{"mul over the end", api.Mul, false, 1<<63 + 1, 2, 2, api.OK},
		{"mul over the end, narrow", api.Mul, true, 1<<31 + 1, 2, 2, api.OK},
		{"div is not signed", api.Div, false, 1<<64 - 6, 2, 1<<63 - 3, api.OK},
		{"div is not signed, narrow", api.Div, true, 1<<32 - 6, 2, 1<<31 - 3, api.OK},
		{"div cuts towards 0", api.Div, false, 7, 4, 1, api.OK},
		{"mod is the rest", api.Mod, false, 7, 4, 3, api.OK},
		{"mod is not signed", api.Mod, false, 1<<64 - 1, 10, 5, api.OK},
		{"div by 0", api.Div, false, 7, 0, 0, api.ErrDivide},
		{"mod by 0", api.Mod, false, 7, 0, 0, api.ErrDivide},
		{"div by 0, narrow", api.Div, true, 7, 0, 0, api.ErrDivide},
		{"mod by 0, narrow", api.Mod, true, 7, 0, 0, api.ErrDivide},
		{"div of 0 by 0", api.Div, false, 0, 0, 0, api.ErrDivide},
		{"div by what is cut to 0", api.Div, true, 7, 1 << 32, 0, api.ErrDivide},
		{"mod by what is cut to 0", api.Mod, true, 7, 0xffffffff00000000, 0, api.ErrDivide},
		{"div by what would be cut to 0", api.Div, false, 1 << 33, 1 << 32, 2, api.OK},
		{"mod by what would be cut to 0", api.Mod, false, 1<<33 + 1, 1 << 32, 1, api.OK},
		{"and", api.And, false, 12, 10, 8, api.OK},
		{"or", api.Or, false, 12, 10, 14, api.OK},
		{"xor", api.Xor, false, 12, 10, 6, api.OK},
		{"shl by the last bit", api.Shl, false, 3, 63, 1 << 63, api.OK},
		{"shl by the width", api.Shl, false, 3, 64, 3, api.OK},
		{"shl by more than the width", api.Shl, false, 3, 65, 6, api.OK},
		{"shl by the width, narrow", api.Shl, true, 3, 32, 3, api.OK},
		{"shl by more than the width, narrow", api.Shl, true, 3, 33, 6, api.OK},
		{"shl by 32 of 64", api.Shl, false, 3, 32, 3 << 32, api.OK},
		{"shl out of 32", api.Shl, true, 3, 31, 1 << 31, api.OK},
		{"shr by the width", api.Shr, false, 1 << 63, 64, 1 << 63, api.OK},
		{"shr fills with noughts", api.Shr, false, 1 << 63, 65, 1 << 62, api.OK},
		{"shr takes nothing from above 32", api.Shr, true, 7 << 31, 1, 1 << 30, api.OK},
		{"sar fills with the highest", api.Sar, false, 1 << 63, 1, 3 << 62, api.OK},
		{"sar by the width", api.Sar, false, 1 << 63, 64, 1 << 63, api.OK},
		{"sar fills with noughts", api.Sar, false, 1<<63 - 1, 62, 1, api.OK},
		{"sar of bit 31 in 64", api.Sar, false, 1 << 31, 1, 1 << 30, api.OK},
		{"sar of bit 63, narrow", api.Sar, true, 1<<63 + 2, 1, 1, api.OK},
		{"sar by the most, narrow", api.Sar, true, 1 << 31, 31, 1<<32 - 1, api.OK},
		{"sar by a huge count", api.Sar, true, 1 << 31, 1<<64 - 1, 1<<32 - 1, api.OK},
		{"mov", api.Mov, false, 9, 1<<32 + 5, 1<<32 + 5, api.OK},
		{"mov, narrow", api.Mov, true, 9, 1<<32 + 5, 5, api.OK},
		{"neg", api.Neg, false, 1, 99, 1<<64 - 1, api.OK},
		{"neg, narrow", api.Neg, true, 1, 99, 1<<32 - 1, api.OK},
		{"neg of 0", api.Neg, false, 0, 0, 0, api.OK},
		{"neg of the highest bit", api.Neg, true, 1 << 31, 0, 1 << 31, api.OK},
	} {
		if n, e := alu.Do(c.op, c.narrow, c.a, c.b); n != c.want || e != c.err {
			t.Errorf("%s: %d, %v", c.name, n, e)
		}
	}
}

func TestDoOfAllOperators(t *testing.T) { // P1.1
	for _, p := range pairs() {
		for _, op := range opsFrom(api.Add, api.Neg) {
			for _, narrow := range widths {
				want, err := wanted(op, narrow, p[0], p[1])
				if n, e := alu.Do(op, narrow, p[0], p[1]); n != want || e != err {
					t.Fatalf("Do(%d, %v, %#x, %#x): %#x, %v, wanted %#x, %v", op, narrow, p[0], p[1], n, e, want, err)
				}
			}
		}
	}
}

func TestDoRefusesOtherOperators(t *testing.T) { // P1.1: ahead of ErrDivide too
	for _, op := range opsBeside(api.Add, api.Neg) {
		for _, narrow := range widths {
			for _, b := range []uint64{0, 3, 1 << 32} {
				if n, e := alu.Do(op, narrow, 7, b); n != 0 || e != api.ErrArg {
					t.Errorf("Do(%d, %v, 7, %d): %d, %v", op, narrow, b, n, e)
				}
			}
		}
	}
}

func TestIsByHand(t *testing.T) { // P1.2
	for _, c := range []struct {
		name   string
		op     api.Op
		narrow bool
		a, b   uint64
		want   bool
	}{
		{"example: signed below, narrow", api.Jslt, true, 1 << 31, 0, true},
		{"example: below, narrow", api.Jlt, true, 1 << 31, 0, false},
		{"equal where cut", api.Jeq, true, 1 << 32, 0, true},
		{"not equal where not cut", api.Jeq, false, 1 << 32, 0, false},
		{"not equal", api.Jne, false, 1 << 32, 0, true},
		{"not equal, narrow", api.Jne, true, 1 << 32, 0, false},
		{"above is not signed", api.Jgt, false, 1 << 63, 0, true},
		{"above itself", api.Jgt, false, 5, 5, false},
		{"not below itself", api.Jge, false, 5, 5, true},
		{"below itself", api.Jlt, false, 5, 5, false},
		{"not above itself", api.Jle, false, 5, 5, true},
		{"signed above", api.Jsgt, false, 1 << 63, 0, false},
		{"bit 31 is no sign of 64", api.Jsgt, false, 1 << 31, 0, true},
		{"bit 63 is no sign of 32", api.Jslt, true, 1 << 63, 1, true},
		{"signed above itself", api.Jsgt, true, 1 << 31, 1 << 31, false},
		{"signed not below itself", api.Jsge, false, 1<<64 - 1, 1<<64 - 1, true},
		{"signed below itself", api.Jslt, false, 1 << 63, 1 << 63, false},
		{"signed not above itself", api.Jsle, true, 1 << 31, 1 << 31, true},
		{"signed ends", api.Jslt, false, 1 << 63, 1<<63 - 1, true},
		{"signed ends, narrow", api.Jsle, true, 1 << 31, 1<<31 - 1, true},
		{"a bit in both", api.Jset, false, 6, 2, true},
		{"no bit in both", api.Jset, false, 6, 1, false},
		{"the highest bit in both", api.Jset, false, 1 << 63, 3 << 62, true},
		{"a bit above 32 in both", api.Jset, true, 1 << 32, 1 << 32, false},
	} {
		if ok, e := alu.Is(c.op, c.narrow, c.a, c.b); ok != c.want || e != api.OK {
			t.Errorf("%s: %v, %v", c.name, ok, e)
		}
	}
}

func TestIsOfAllOperators(t *testing.T) { // P1.2
	for _, p := range pairs() {
		for _, op := range opsFrom(api.Jeq, api.Jset) {
			for _, narrow := range widths {
				want, err := wantedIs(op, narrow, p[0], p[1])
				if ok, e := alu.Is(op, narrow, p[0], p[1]); ok != want || e != err {
					t.Fatalf("Is(%d, %v, %#x, %#x): %v, %v, wanted %v, %v", op, narrow, p[0], p[1], ok, e, want, err)
				}
			}
		}
	}
}

func TestIsRefusesOtherOperators(t *testing.T) { // P1.2
	for _, op := range opsBeside(api.Jeq, api.Jset) {
		for _, narrow := range widths {
			for _, p := range [][2]uint64{{0, 0}, {7, 3}, {3, 7}, {1<<64 - 1, 1<<64 - 1}} {
				if ok, e := alu.Is(op, narrow, p[0], p[1]); ok || e != api.ErrArg {
					t.Errorf("Is(%d, %v, %d, %d): %v, %v", op, narrow, p[0], p[1], ok, e)
				}
			}
		}
	}
}

func TestWide(t *testing.T) { // P1.3
	for _, c := range []struct {
		n    int
		want uint64
	}{
		{0, 0}, {1, 1}, {1 << 31, 1 << 31}, {1 << 32, 1 << 32}, {math.MaxInt, 1<<63 - 1},
		{-1, 1<<64 - 1}, {-2, 1<<64 - 2}, {-1 << 31, 1<<64 - 1<<31}, {-1 << 32, 1<<64 - 1<<32}, {math.MinInt, 1 << 63},
	} {
		if got := alu.Wide(c.n); got != c.want {
			t.Errorf("Wide(%d): %#x", c.n, got)
		}
	}
}

func do(t *testing.T, op api.Op, narrow bool, a, b uint64) uint64 {
	t.Helper()
	n, e := alu.Do(op, narrow, a, b)
	if e != api.OK {
		t.Fatalf("Do(%d, %v, %#x, %#x): %v", op, narrow, a, b, e)
	}
	return n
}

func TestNegAndSubUndoAdd(t *testing.T) { // P1.4
	for _, p := range pairs() {
		for _, narrow := range widths {
			a, b := p[0], p[1]
			sum := do(t, api.Add, narrow, a, b)
			whole := do(t, api.Mov, narrow, 0, a)
			if n := do(t, api.Sub, narrow, sum, b); n != whole {
				t.Fatalf("Sub does not undo Add: %v, %#x, %#x: %#x", narrow, a, b, n)
			}
			if n := do(t, api.Add, narrow, sum, do(t, api.Neg, narrow, b, a)); n != whole {
				t.Fatalf("Neg does not undo Add: %v, %#x, %#x: %#x", narrow, a, b, n)
			}
		}
	}
}

func TestOppositesPartAllPairs(t *testing.T) { // P1.4
	opposites := [][2]api.Op{{api.Jeq, api.Jne}, {api.Jgt, api.Jle}, {api.Jge, api.Jlt}, {api.Jsgt, api.Jsle}, {api.Jsge, api.Jslt}}
	for _, p := range pairs() {
		for _, narrow := range widths {
			for _, o := range opposites {
				yes, e := alu.Is(o[0], narrow, p[0], p[1])
				no, f := alu.Is(o[1], narrow, p[0], p[1])
				if yes == no || e != api.OK || f != api.OK {
					t.Fatalf("%d and %d, %v, %#x, %#x: %v, %v", o[0], o[1], narrow, p[0], p[1], yes, no)
				}
			}
		}
	}
}

func TestNarrowHangsOnTheLowest32Alone(t *testing.T) { // P1.4
	const above = 1<<64 - 1<<32
	for _, p := range pairs() {
		low, high := [2]uint64{p[0] &^ above, p[1] &^ above}, [2]uint64{p[0] | above, p[1] | above}
		for _, op := range opsFrom(api.Add, api.Neg) {
			n, e := alu.Do(op, true, low[0], low[1])
			m, f := alu.Do(op, true, high[0], high[1])
			if n != m || e != f || n > 1<<32-1 {
				t.Fatalf("Do(%d) of %#x, %#x: %#x, %v, with bits above: %#x, %v", op, low[0], low[1], n, e, m, f)
			}
		}
		for _, op := range opsFrom(api.Jeq, api.Jset) {
			n, e := alu.Is(op, true, low[0], low[1])
			m, f := alu.Is(op, true, high[0], high[1])
			if n != m || e != f {
				t.Fatalf("Is(%d) of %#x, %#x: %v, %v, with bits above: %v, %v", op, low[0], low[1], n, e, m, f)
			}
		}
	}
}
