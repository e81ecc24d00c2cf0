package ins_test

import (
	"bytes"
	"math"
	"math/rand"
	"reflect"
	"slices"
	"sync"
	"testing"

	"barbican/api"
	"barbican/ins"
)

// row is one of the chapter's table; last is the greatest Dst, -1 where there is none.
type row struct {
	from, to                        api.Op
	last                            int
	source, second, far, size, thin bool
}

var table = []row{
	{from: api.Add, to: api.Mov, last: 9, second: true, thin: true},
	{from: api.Neg, to: api.Neg, last: 9, thin: true},
	{from: api.Load, to: api.Load, last: 9, source: true, far: true, size: true},
	{from: api.Put, to: api.Put, last: 10, second: true, far: true, size: true},
	{from: api.Jump, to: api.Jump, last: -1, far: true},
	{from: api.Jeq, to: api.Jset, last: 10, second: true, far: true, thin: true},
	{from: api.Exit, to: api.Exit, last: -1},
}

func between(n, lo, hi int) bool { return lo <= n && n <= hi }

// rightByWords asks each field on its own.
func rightByWords(i api.Ins) bool {
	at := slices.IndexFunc(table, func(r row) bool { return r.from <= i.Op && i.Op <= r.to })
	if at < 0 {
		return false
	}
	r := table[at]
	dst := i.Dst == 0 || between(i.Dst, 0, r.last)
	src := i.Src == 0
	if r.source || r.second && !i.UseImm {
		src = between(i.Src, 0, 10)
	}
	imm := i.Imm == 0 && !i.UseImm
	if r.second && i.UseImm {
		imm = between(i.Imm, math.MinInt32, math.MaxInt32)
	}
	off := i.Off == 0 || r.far && between(i.Off, math.MinInt16, math.MaxInt16)
	size := r.size == slices.Contains([]int{1, 2, 4, 8}, i.Size) && (r.size || i.Size == 0)
	return dst && src && imm && off && size && (r.thin || !i.Narrow)
}

// bytesByWords reckons the bytes of a right instruction by sums, as the chapter tells them.
func bytesByWords(i api.Ins) []byte {
	first := int(i.Op)
	if i.UseImm {
		first += 32
	}
	if i.Narrow {
		first += 64
	}
	if i.Op == api.Load || i.Op == api.Put {
		first += 64 * slices.Index([]int{1, 2, 4, 8}, i.Size)
	}
	b := []byte{byte(first), byte(16*i.Dst + i.Src)}
	b = append(b, number(i.Off, 2)...)
	return append(b, number(i.Imm, 4)...)
}

func number(n, size int) []byte {
	if n < 0 {
		n += 1 << (8 * size)
	}
	b := make([]byte, size)
	for k := range b {
		b[size-1-k] = byte(n % 256)
		n /= 256
	}
	return b
}

func nextByWords(l []api.Ins, at int) []int {
	if at < 0 || at >= len(l) || !rightByWords(l[at]) || l[at].Op == api.Exit {
		return nil
	}
	var n []int
	if l[at].Op != api.Jump {
		n = append(n, at+1)
	}
	if l[at].Op >= api.Jump && l[at].Op <= api.Jset {
		n = append(n, at+1+l[at].Off)
	}
	slices.Sort(n)
	return slices.Compact(n)
}

var (
	farEdges = []int{math.MinInt16, -256, -1, 0, 1, 255, math.MaxInt16}
	immEdges = []int{math.MinInt32, -65536, -1, 0, 1, 258, math.MaxInt32}
)

// rights are all right instructions whose Off and Imm are among the edges.
func rights() []api.Ins {
	var l []api.Ins
	add := func(i api.Ins, r row) {
		for thin := range 2 {
			i.Narrow = thin == 1
			if thin == 0 || r.thin {
				l = append(l, i)
			}
		}
	}
	seconds := func(i api.Ins, r row) {
		if !r.source && !r.second {
			add(i, r)
			return
		}
		for i.Src = 0; i.Src <= 10; i.Src++ {
			add(i, r)
		}
		i.Src = 0
		for _, imm := range immEdges {
			i.UseImm, i.Imm = true, imm
			if r.second {
				add(i, r)
			}
		}
	}
	for _, r := range table {
		offs, sizes := []int{0}, []int{0}
		if r.far {
			offs = farEdges
		}
		if r.size {
			sizes = []int{1, 2, 4, 8}
		}
		for op := r.from; op <= r.to; op++ {
			for dst := 0; dst <= max(r.last, 0); dst++ {
				for _, off := range offs {
					for _, size := range sizes {
						seconds(api.Ins{Op: op, Dst: dst, Off: off, Size: size}, r)
					}
				}
			}
		}
	}
	return l
}

func mostly(r *rand.Rand, n int) []api.Ins {
	all := rights()
	l := make([]api.Ins, n)
	for k := range l {
		l[k] = all[r.Intn(len(all))]
	}
	return l
}

// P6.1
func TestRightAtAllEdges(t *testing.T) {
	ops := []api.Op{100, 128 + 12, 255}
	for op := api.Op(0); op <= 32; op++ {
		ops = append(ops, op)
	}
	count, good := 0, 0
	for _, op := range ops {
		for _, dst := range []int{-1, 0, 1, 9, 10, 11} {
			for _, src := range []int{-1, 0, 1, 10, 11} {
				for _, off := range []int{-1<<15 - 1, -1 << 15, -1, 0, 1, 1<<15 - 1, 1 << 15} {
					for _, imm := range []int{-1<<31 - 1, -1 << 31, 0, 1, 1<<31 - 1, 1 << 31} {
						for _, size := range []int{-1, 0, 1, 2, 3, 4, 5, 8, 16} {
							for flags := range 4 {
								i := api.Ins{Op: op, Narrow: flags&1 == 1, UseImm: flags&2 == 2, Dst: dst, Src: src, Off: off, Imm: imm, Size: size}
								want := rightByWords(i)
								if ins.Right(i) != want {
									t.Fatalf("%+v: %v, not %v", i, !want, want)
								}
								count++
								if want {
									good++
								}
							}
						}
					}
				}
			}
		}
	}
	if good == 0 || good == count {
		t.Error(good, count)
	}
}

// P6.1
func TestRightOfFarOutFields(t *testing.T) {
	right := []api.Ins{{Op: api.Add, Dst: 9, Src: 10}, {Op: api.Neg, Dst: 9, Narrow: true}, {Op: api.Load, Dst: 9, Src: 10, Size: 8}, {Op: api.Put, Dst: 10, UseImm: true, Size: 1}, {Op: api.Jump}, {Op: api.Jset, Dst: 10, UseImm: true}, {Op: api.Exit}}
	for _, i := range right {
		if !ins.Right(i) {
			t.Errorf("%+v", i)
		}
		for _, n := range []int{math.MinInt, math.MinInt + 1, -1 << 32, 1 << 32, 1<<32 + 1, 1 << 62, math.MaxInt} {
			for field := range 5 {
				spoilt := i
				*[]*int{&spoilt.Dst, &spoilt.Src, &spoilt.Off, &spoilt.Imm, &spoilt.Size}[field] = n
				if ins.Right(spoilt) {
					t.Errorf("%+v", spoilt)
				}
			}
		}
	}
}

// P6.1
func TestRightByHand(t *testing.T) {
	for _, c := range []struct {
		i    api.Ins
		want bool
	}{
		{api.Ins{Op: api.Mov, Dst: 9, UseImm: true, Imm: -1, Narrow: true}, true},
		{api.Ins{Op: api.Mov, Dst: 10, UseImm: true, Imm: -1}, false},
		{api.Ins{Op: api.Mov, UseImm: true, Src: 1}, false},
		{api.Ins{Op: api.Mov, Src: 1, Imm: 1}, false},
		{api.Ins{Op: api.Mov, Src: 1, Off: 1}, false},
		{api.Ins{Op: api.Mov, Src: 1, Size: 8}, false},
		{api.Ins{Op: api.Neg, UseImm: true}, false},
		{api.Ins{Op: api.Load, Dst: 1, Src: 10, Size: 8, UseImm: true}, false},
		{api.Ins{Op: api.Load, Dst: 1, Src: 10}, false},
		{api.Ins{Op: api.Put, Dst: 10, Src: 1, Size: 8, Narrow: true}, false},
		{api.Ins{Op: api.Put, Dst: 10, Src: 11, Size: 8}, false},
		{api.Ins{Op: api.Jump, Off: -1 << 15}, true},
		{api.Ins{Op: api.Jump, Off: 1, Dst: 1}, false},
		{api.Ins{Op: api.Jump, Off: 1, Narrow: true}, false},
		{api.Ins{Op: api.Jump, Off: 1, UseImm: true}, false},
		{api.Ins{Op: api.Jeq, Dst: 10, Src: 10, Off: 3, Narrow: true}, true},
		{api.Ins{Op: api.Jeq, Dst: 10, Src: 10, Off: 3, Size: 1}, false},
		{api.Ins{Op: api.Exit}, true},
		{api.Ins{Op: api.Exit, Dst: 1}, false},
		{api.Ins{Op: api.Exit, Narrow: true}, false},
		{api.Ins{}, false},
		{api.Ins{Op: 29}, false},
	} {
		if ins.Right(c.i) != c.want {
			t.Errorf("%+v: not %v", c.i, c.want)
		}
	}
}

// P6.1: of an Op alone, whatever the other fields are.
func TestJumps(t *testing.T) {
	for op := range 256 {
		want := op >= 16 && op <= 27
		for _, i := range []api.Ins{{}, {Dst: 11, Off: 1 << 20, Size: 3}, {Narrow: true, UseImm: true, Imm: 1}} {
			i.Op = api.Op(op)
			if ins.Jumps(i) != want {
				t.Error(op, want)
			}
		}
	}
}

// P6.2, the chapter's examples.
func TestBytesByHand(t *testing.T) {
	for _, c := range []struct {
		i api.Ins
		b []byte
	}{
		{api.Ins{Op: api.Mov, UseImm: true, Imm: 1}, []byte{0x2c, 0, 0, 0, 0, 0, 0, 1}},
		{api.Ins{Op: api.Load, Dst: 3, Src: 1, Off: 12, Size: 2}, []byte{0x4e, 0x31, 0, 0x0c, 0, 0, 0, 0}},
		{api.Ins{Op: api.Exit}, []byte{0x1c, 0, 0, 0, 0, 0, 0, 0}},
		{api.Ins{Op: api.Load, Dst: 9, Src: 10, Off: -1, Size: 1}, []byte{0x0e, 0x9a, 0xff, 0xff, 0, 0, 0, 0}},
		{api.Ins{Op: api.Load, Src: 1, Off: 258, Size: 8}, []byte{0xce, 0x01, 1, 2, 0, 0, 0, 0}},
		{api.Ins{Op: api.Put, Dst: 10, Src: 2, Off: -32768, Size: 4}, []byte{0x8f, 0xa2, 0x80, 0, 0, 0, 0, 0}},
		{api.Ins{Op: api.Add, Dst: 1, UseImm: true, Imm: -1 << 31, Narrow: true}, []byte{0x61, 0x10, 0, 0, 0x80, 0, 0, 0}},
		{api.Ins{Op: api.Jump, Off: 32767}, []byte{0x10, 0, 0x7f, 0xff, 0, 0, 0, 0}},
		{api.Ins{Op: api.Jset, Dst: 10, UseImm: true, Imm: 0x01020304, Off: 2}, []byte{0x3b, 0xa0, 0, 2, 1, 2, 3, 4}},
		{api.Ins{Op: api.Neg, Dst: 7, Narrow: true}, []byte{0x4d, 0x70, 0, 0, 0, 0, 0, 0}},
	} {
		if b, e := ins.Put([]api.Ins{c.i}); e != api.OK || !bytes.Equal(b, c.b) {
			t.Errorf("%+v: % x %v", c.i, b, e)
		}
		if l, e := ins.Get(c.b); e != api.OK || !slices.Equal(l, []api.Ins{c.i}) {
			t.Errorf("% x: %+v %v", c.b, l, e)
		}
	}
}

// P6.2, P6.4: each right instruction's bytes, there and back.
func TestBytesOfAllRightOnes(t *testing.T) {
	for _, i := range rights() {
		b, e := ins.Put([]api.Ins{i})
		if e != api.OK || !bytes.Equal(b, bytesByWords(i)) {
			t.Fatalf("%+v: % x %v", i, b, e)
		}
		if l, e := ins.Get(b); e != api.OK || len(l) != 1 || l[0] != i {
			t.Fatalf("% x: %+v %v", b, l, e)
		}
	}
}

// P6.2: all first and second bytes with the edges' others; what no right instruction is put as says nothing.
func TestGetOfAllWords(t *testing.T) {
	known := map[string]api.Ins{}
	for _, i := range rights() {
		known[string(bytesByWords(i))] = i
	}
	got := 0
	for _, off := range farEdges {
		for _, imm := range []int{-1, 0, 258} {
			tail := append(number(off, 2), number(imm, 4)...)
			for head := range 1 << 16 {
				w := append([]byte{byte(head >> 8), byte(head)}, tail...)
				l, e := ins.Get(w)
				i, right := known[string(w)]
				if right {
					got++
				}
				if right && (e != api.OK || len(l) != 1 || l[0] != i) || !right && (e != api.ErrShape || l != nil) {
					t.Fatalf("% x: %+v %v", w, l, e)
				}
			}
		}
	}
	if got == 0 {
		t.Error("none of the words is right")
	}
}

// P6.2
func TestPutOfWrongOnes(t *testing.T) {
	l := mostly(rand.New(rand.NewSource(6)), 40)
	for _, wrong := range []api.Ins{{}, {Op: 29}, {Op: 255}, {Op: api.Exit, Off: 1}, {Op: api.Add, Dst: 10}, {Op: api.Load, Dst: 1, Src: 1, Size: 3}, {Op: api.Mov, UseImm: true, Imm: 1 << 31}, {Op: api.Mov, Dst: -1}} {
		for at := range l {
			spoilt := slices.Clone(l)
			spoilt[at] = wrong
			if b, e := ins.Put(spoilt); e != api.ErrShape || b != nil {
				t.Errorf("%+v at %d: % x %v", wrong, at, b, e)
			}
		}
	}
}

// P6.2
func TestGetOfWrongBytes(t *testing.T) {
	whole, e := ins.Put(mostly(rand.New(rand.NewSource(7)), 20))
	if e != api.OK {
		t.Fatal(e)
	}
	for n := range whole {
		if l, e := ins.Get(whole[:n]); n%8 != 0 && (e != api.ErrShape || l != nil) {
			t.Errorf("%d bytes: %v %v", n, l, e)
		}
	}
	for at := 0; at < len(whole); at += 8 {
		spoilt := bytes.Clone(whole)
		spoilt[at] = 31
		if l, e := ins.Get(spoilt); e != api.ErrShape || l != nil {
			t.Errorf("at %d: %v %v", at, l, e)
		}
	}
}

// P6.2: the limits, and that ErrLong is named ahead of ErrShape.
func TestLimits(t *testing.T) {
	most := mostly(rand.New(rand.NewSource(8)), api.MaxIns)
	b, e := ins.Put(most)
	if e != api.OK || len(b) != 8*api.MaxIns {
		t.Fatal(len(b), e)
	}
	if l, e := ins.Get(b); e != api.OK || !slices.Equal(l, most) {
		t.Error(len(l), e)
	}
	for _, more := range [][]api.Ins{append(slices.Clone(most), api.Ins{Op: api.Exit}), make([]api.Ins, api.MaxIns+1)} {
		if b, e := ins.Put(more); e != api.ErrLong || b != nil {
			t.Error(len(b), e)
		}
	}
	if b, e := ins.Put(make([]api.Ins, api.MaxIns)); e != api.ErrShape || b != nil {
		t.Error(len(b), e)
	}
	for _, more := range [][]byte{append(bytes.Clone(b), 0), append(bytes.Clone(b), b[:8]...), make([]byte, 8*api.MaxIns+8)} {
		if l, e := ins.Get(more); e != api.ErrLong || l != nil {
			t.Error(len(l), e)
		}
	}
	if l, e := ins.Get(make([]byte, 8*api.MaxIns)); e != api.ErrShape || l != nil {
		t.Error(len(l), e)
	}
}

// R6
func TestNothing(t *testing.T) {
	for _, l := range [][]api.Ins{nil, {}} {
		if b, e := ins.Put(l); e != api.OK || len(b) != 0 {
			t.Error(b, e)
		}
		for at := -1; at <= 1; at++ {
			if n := ins.Next(l, at); len(n) != 0 {
				t.Error(n)
			}
		}
	}
	for _, b := range [][]byte{nil, {}} {
		if l, e := ins.Get(b); e != api.OK || len(l) != 0 {
			t.Error(l, e)
		}
	}
}

// P6.3
func TestNextByHand(t *testing.T) {
	l := []api.Ins{
		{Op: api.Mov, UseImm: true, Imm: 5},
		{Op: api.Load, Src: 1, Off: 7, Size: 1},
		{Op: api.Put, Dst: 10, Off: -8, Size: 8},
		{Op: api.Neg, Narrow: true},
		{Op: api.Jump, Off: 0},
		{Op: api.Jump, Off: -1},
		{Op: api.Jump, Off: -32768},
		{Op: api.Jeq, Off: 0},
		{Op: api.Jset, Off: 32767},
		{Op: api.Jne, Off: -1},
		{Op: api.Jsle, Off: -30},
		{Op: api.Jgt, Off: 1 << 15},
		{Op: api.Exit, Off: 1},
		{Op: api.Exit},
		{Op: api.Jlt, Off: -14, Narrow: true, Dst: 10, UseImm: true, Imm: -1},
		{Op: api.Mov, Dst: 1},
	}
	want := [][]int{{1}, {2}, {3}, {4}, {5}, {5}, {7 - 32768}, {8}, {9, 9 + 32767}, {9, 10}, {-19, 11}, nil, nil, nil, {1, 15}, {16}}
	for at := range l {
		if n := ins.Next(l, at); !slices.Equal(n, want[at]) {
			t.Errorf("behind %d: %v, not %v", at, n, want[at])
		}
	}
	for _, at := range []int{math.MinInt, -1, len(l), len(l) + 1, math.MaxInt} {
		if n := ins.Next(l, at); n != nil {
			t.Error(at, n)
		}
	}
}

// P6.3
func TestNextOfAllRightOnes(t *testing.T) {
	all := rights()
	for at := range all {
		if n := ins.Next(all, at); !slices.Equal(n, nextByWords(all, at)) {
			t.Fatalf("%d, %+v: %v", at, all[at], n)
		}
	}
	for _, i := range all {
		i.Size = 3
		if n := ins.Next([]api.Ins{i}, 0); n != nil {
			t.Fatalf("%+v: %v", i, n)
		}
	}
}

// P6.4
func TestThereAndBack(t *testing.T) {
	r := rand.New(rand.NewSource(64))
	some := mostly(r, 1000)
	for range 300 {
		l := some[r.Intn(500):][:r.Intn(30)]
		b, e := ins.Put(l)
		if e != api.OK {
			t.Fatal(e)
		}
		for n := 0; n <= len(l); n++ {
			if m, e := ins.Get(b[:8*n]); e != api.OK || !slices.Equal(m, l[:n]) {
				t.Fatal(m, e)
			}
		}
	}
	for range 200000 {
		w := make([]byte, 8)
		r.Read(w)
		w[r.Intn(2)+6*r.Intn(2)] = byte(r.Intn(2))
		if r.Intn(2) == 0 {
			clear(w[2+2*r.Intn(2):])
		}
		l, e := ins.Get(w)
		if e != api.OK {
			continue
		}
		if b, e := ins.Put(l); e != api.OK || !bytes.Equal(b, w) {
			t.Fatalf("% x: % x %v", w, b, e)
		}
	}
}

// R3, R4
func TestNothingIsSharedOrChanged(t *testing.T) {
	l := mostly(rand.New(rand.NewSource(3)), 50)
	kept := slices.Clone(l)
	b, _ := ins.Put(l)
	whole := bytes.Clone(b)
	m, _ := ins.Get(b)
	n := ins.Next(l, 0)
	clear(b)
	if !slices.Equal(m, kept) || !slices.Equal(l, kept) {
		t.Error("the instructions hang on the bytes")
	}
	clear(m)
	if again, _ := ins.Put(l); !bytes.Equal(again, whole) {
		t.Error("put otherwise")
	}
	if again, _ := ins.Get(whole); !slices.Equal(again, kept) {
		t.Error("got otherwise")
	}
	if again := ins.Next(l, 0); !slices.Equal(again, n) {
		t.Error("behind it otherwise")
	}
}

// R4: calls beside one another.
func TestBeside(t *testing.T) {
	l := mostly(rand.New(rand.NewSource(4)), 500)
	want, _ := ins.Put(l)
	var wg sync.WaitGroup
	for range 8 {
		wg.Go(func() {
			b, _ := ins.Put(l)
			m, _ := ins.Get(want)
			if !bytes.Equal(b, want) || !reflect.DeepEqual(m, l) {
				t.Error("otherwise")
			}
		})
	}
	wg.Wait()
}
