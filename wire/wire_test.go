package wire_test

import (
	"bytes"
	"fmt"
	"math"
	"math/rand"
	"testing"

	"barbican/api"
	"barbican/wire"
)

// numbers are those where a byte, a sign or a width turns over.
var numbers = []int{
	0, 1, 2, 127, 128, 255, 256, 257, 258, 65535, 65536, 1<<31 - 1, 1 << 31, 1<<32 - 1, 1 << 32, 1<<32 + 1, 1 << 40,
	1<<56 - 1, 1 << 56, 0x0123456789abcdef, math.MaxInt - 1, math.MaxInt,
	-1, -2, -255, -256, -257, -1 << 31, -1<<31 - 1, -1 << 32, -1 << 56, -0x0123456789abcdef, math.MinInt + 1, math.MinInt,
}

// eight is a number's bytes by the document's words, reckoned by quotients and not by bits.
func eight(n int) []byte {
	b := make([]byte, 8)
	for i := 7; i >= 0; i-- {
		rest := n % 256
		if rest < 0 {
			rest += 256
		}
		b[i] = byte(rest)
		n = (n - rest) / 256
	}
	return b
}

// row is the bytes of numbers, with more behind them.
func row(more []byte, ns ...int) []byte {
	var b []byte
	for _, n := range ns {
		b = append(b, wire.Number(n)...)
	}
	return append(b, more...)
}

// zero tells of an entry whether nothing is in it.
func zero(e api.Entry) bool {
	return same(e, api.Entry{})
}

// same takes a nil list and an empty one as one.
func same(a, b api.Entry) bool {
	return a.Term == b.Term && a.Kind == b.Kind && a.Version == b.Version && a.Server == b.Server && a.Good == b.Good && bytes.Equal(a.Data, b.Data)
}

// isBad asks of a reader all that the document says of a bad one, twice, since nothing may mend it.
func isBad(t *testing.T, name string, r *wire.Reader) {
	t.Helper()
	for range 2 {
		if !r.Bad() || r.Done() {
			t.Errorf("%s: Bad %v, Done %v", name, r.Bad(), r.Done())
		}
		if n, b, e := r.Number(), r.Bytes(), r.Entry(); n != 0 || len(b) != 0 || !zero(e) {
			t.Errorf("%s: a bad reader reads %d, %x, %v", name, n, b, e)
		}
	}
}

func isDone(t *testing.T, name string, r *wire.Reader) {
	t.Helper()
	if r.Bad() || !r.Done() {
		t.Errorf("%s: Bad %v, Done %v", name, r.Bad(), r.Done())
	}
}

func isAmid(t *testing.T, name string, r *wire.Reader) {
	t.Helper()
	if r.Bad() || r.Done() {
		t.Errorf("%s: Bad %v, Done %v", name, r.Bad(), r.Done())
	}
}

func TestNumberByHand(t *testing.T) { // P2.1
	for n, want := range map[int]string{
		0:                  "0000000000000000",
		7:                  "0000000000000007",
		258:                "0000000000000102",
		-1:                 "ffffffffffffffff",
		-2:                 "fffffffffffffffe",
		-256:               "ffffffffffffff00",
		0x0123456789abcdef: "0123456789abcdef",
		math.MaxInt:        "7fffffffffffffff",
		math.MinInt:        "8000000000000000",
	} {
		if got := fmt.Sprintf("%x", wire.Number(n)); got != want {
			t.Errorf("Number(%d): %s", n, got)
		}
	}
}

func TestNumberOfMany(t *testing.T) { // P2.1
	draw := rand.New(rand.NewSource(1))
	for i := range 2000 {
		n := int(draw.Uint64()) >> draw.Intn(64)
		if i < len(numbers) {
			n = numbers[i]
		}
		if got := wire.Number(n); !bytes.Equal(got, eight(n)) {
			t.Fatalf("Number(%d): %x, wanted %x", n, got, eight(n))
		}
	}
}

func TestBytes(t *testing.T) { // P2.1
	for _, n := range []int{0, 1, 2, 7, 8, 9, 255, 256, 257, 65535, 65536, 70000} {
		b := bytes.Repeat([]byte{0xa5, 3, 0}, n)[:n]
		if got := wire.Bytes(b); !bytes.Equal(got, append(eight(n), b...)) {
			t.Errorf("Bytes of %d: %x", n, got[:min(len(got), 20)])
		}
	}
	if got := wire.Bytes(nil); !bytes.Equal(got, make([]byte, 8)) {
		t.Errorf("Bytes of none: %x", got)
	}
	if got := wire.Bytes([]byte{7}); !bytes.Equal(got, []byte{0, 0, 0, 0, 0, 0, 0, 1, 7}) {
		t.Errorf("Bytes of 7: %x", got)
	}
}

func TestEntryByHand(t *testing.T) { // P2.1
	for _, c := range []struct {
		e    api.Entry
		want string
	}{
		{api.Entry{}, "000000000000000000000000000000000000000000000000000000000000000000000000000000000000000000000000"},
		{api.Entry{Term: 1, Kind: 2, Version: 3, Server: 4, Good: true, Data: []byte{0xab, 0xcd}},
			"00000000000000010000000000000002000000000000000300000000000000040000000000000001" + "0000000000000002abcd"},
		{api.Entry{Term: -1, Kind: 255, Version: -2, Server: 1 << 40, Data: []byte{0}},
			"ffffffffffffffff00000000000000fffffffffffffffffe00000100000000000000000000000000" + "000000000000000100"},
	} {
		if got := fmt.Sprintf("%x", wire.Entry(c.e)); got != c.want {
			t.Errorf("Entry(%v): %s", c.e, got)
		}
	}
}

func TestJoin(t *testing.T) { // P2.1
	a, b, c := []byte("a"), []byte{}, []byte("bcd")
	for _, x := range []struct {
		parts [][]byte
		want  string
	}{
		{nil, ""}, {[][]byte{nil}, ""}, {[][]byte{b, nil, b}, ""}, {[][]byte{a}, "a"}, {[][]byte{a, c}, "abcd"},
		{[][]byte{c, a}, "bcda"}, {[][]byte{a, nil, c, b, a, a}, "abcdaa"}, {[][]byte{nil, c}, "bcd"},
	} {
		if got := wire.Join(x.parts...); string(got) != x.want {
			t.Errorf("Join(%q): %q", x.parts, got)
		}
	}
	if got := wire.Join(); len(got) != 0 {
		t.Errorf("Join(): %q", got)
	}
}

func TestWritersKeepAndChangeNothing(t *testing.T) { // P2.1, R3
	behind := []byte("ab....")
	part, tail := behind[:2], []byte("yz")
	list := [][]byte{part, tail}
	joined := wire.Join(list...)
	if string(behind) != "ab...." || string(tail) != "yz" || &list[0][0] != &behind[0] || &list[1][0] != &tail[0] || len(list[0]) != 2 {
		t.Errorf("Join changed its parts: %q, %q", behind, tail)
	}
	alone, put, entry := wire.Join(part), wire.Bytes(part), wire.Entry(api.Entry{Data: part})
	if string(behind) != "ab...." {
		t.Errorf("written behind an argument: %q", behind)
	}
	part[0], tail[0] = 'X', 'X'
	if string(joined) != "abyz" || string(alone) != "ab" || string(put[8:]) != "ab" || string(entry[48:]) != "ab" {
		t.Errorf("an answer shares its argument's bytes: %q, %q, %q, %q", joined, alone, put, entry)
	}
	alone[1], put[9], entry[49] = 'Y', 'Y', 'Y'
	if string(part) != "Xb" {
		t.Errorf("an argument shares its answer's bytes: %q", part)
	}
	first := wire.Number(5)
	first[7] = 9
	if again := wire.Number(5); again[7] != 5 {
		t.Errorf("Number(5) again: %x", again)
	}
}

func TestReadNumber(t *testing.T) { // P2.2
	for _, n := range numbers {
		r := wire.NewReader(append(eight(n), 1))
		if got := r.Number(); got != n {
			t.Errorf("%d read as %d", n, got)
		}
		isAmid(t, "a byte is left", r)
		r = wire.NewReader(eight(n))
		if got := r.Number(); got != n {
			t.Errorf("%d read as %d", n, got)
		}
		isDone(t, "nothing is left", r)
	}
	for n := range 8 {
		r := wire.NewReader(bytes.Repeat([]byte{0xff}, n))
		if got := r.Number(); got != 0 {
			t.Errorf("of %d bytes: %d", n, got)
		}
		isBad(t, fmt.Sprintf("a number of %d bytes", n), r)
		r = wire.NewReader(row(bytes.Repeat([]byte{0xff}, n), 5))
		if a, b := r.Number(), r.Number(); a != 5 || b != 0 {
			t.Errorf("of %d bytes behind a number: %d, %d", n, a, b)
		}
		isBad(t, fmt.Sprintf("a second number of %d bytes", n), r)
	}
}

func TestReadBytes(t *testing.T) { // P2.2
	for _, c := range []struct {
		name string
		b    []byte
		want string
		left bool
	}{
		{"none", row(nil, 0), "", false},
		{"none, and more behind", row([]byte("q"), 0), "", true},
		{"one", row([]byte("q"), 1), "q", false},
		{"one, and one behind", row([]byte("qr"), 1), "q", true},
		{"as many as a number has", row([]byte("12345678"), 8), "12345678", false},
		{"many", row(bytes.Repeat([]byte("z"), 300), 300), string(bytes.Repeat([]byte("z"), 300)), false},
		{"all but one", row(bytes.Repeat([]byte("z"), 300), 299), string(bytes.Repeat([]byte("z"), 299)), true},
	} {
		r := wire.NewReader(c.b)
		if got := r.Bytes(); string(got) != c.want {
			t.Errorf("%s: %q", c.name, got)
		}
		if r.Bad() || r.Done() == c.left {
			t.Errorf("%s: Bad %v, Done %v", c.name, r.Bad(), r.Done())
		}
	}
}

func TestReadBytesThatAreNot(t *testing.T) { // P2.2
	for _, c := range []struct {
		name string
		b    []byte
	}{
		{"nothing", nil},
		{"seven bytes", make([]byte, 7)},
		{"one is asked for, none there", row(nil, 1)},
		{"one too few", row([]byte("abcdefgh"), 9)},
		{"below 0", row([]byte("abcdefghijklmnop"), -1)},
		{"far below 0", row([]byte("abcdefghijklmnop"), math.MinInt)},
		{"below 0 by what is left", row([]byte("abcdefgh"), -8)},
		{"above all", row([]byte("abcdefghijklmnop"), math.MaxInt)},
		{"32 bits would say two", row([]byte("abcdefghijklmnop"), 1<<32+2)},
		{"so many that the end wraps round", row([]byte("abcdefghijklmnop"), math.MaxInt-7)},
	} {
		r := wire.NewReader(c.b)
		if got := r.Bytes(); len(got) != 0 {
			t.Errorf("%s: %q", c.name, got)
		}
		isBad(t, c.name, r)
	}
}

func TestReadEntry(t *testing.T) { // P2.2
	for kind := range 256 {
		for _, good := range []bool{false, true} {
			for i, data := range [][]byte{nil, {0}, []byte("some bytes, more than a number has")} {
				e := api.Entry{Term: numbers[kind%len(numbers)], Kind: api.EntryKind(kind), Version: kind - 7, Server: -kind, Good: good, Data: data}
				r := wire.NewReader(wire.Join(wire.Entry(e), wire.Number(i)))
				if got := r.Entry(); !same(got, e) {
					t.Fatalf("%v read as %v", e, got)
				}
				isAmid(t, "a number is left", r)
				if got := r.Number(); got != i {
					t.Fatalf("behind an entry: %d, not %d", got, i)
				}
				isDone(t, "an entry and a number", r)
			}
		}
	}
}

func TestReadEntryThatIsNone(t *testing.T) { // P2.2
	// what is left behind each could be read: so it is the fault, and not the end, that ends it
	rest := wire.Join(wire.Number(3), wire.Bytes([]byte("abc")), wire.Entry(api.Entry{Term: 9}))
	for _, kind := range []int{-1, 256, 257, 1 << 32, 1<<32 + 1, math.MaxInt, math.MinInt, math.MinInt + 1} {
		r := wire.NewReader(row(rest, 1, kind, 2, 3, 1, 0))
		if e := r.Entry(); !zero(e) {
			t.Errorf("Kind %d: %v", kind, e)
		}
		isBad(t, fmt.Sprintf("Kind %d", kind), r)
	}
	for _, good := range []int{-1, 2, 3, 255, 256, 257, 1 << 32, 1<<32 + 1, math.MaxInt, math.MinInt, math.MinInt + 1} {
		r := wire.NewReader(row(rest, 1, 4, 2, 3, good, 0))
		if e := r.Entry(); !zero(e) {
			t.Errorf("Good %d: %v", good, e)
		}
		isBad(t, fmt.Sprintf("Good %d", good), r)
	}
	for _, size := range []int{-1, len(rest) + 1, math.MaxInt, math.MinInt} {
		r := wire.NewReader(row(rest, 1, 4, 2, 3, 1, size))
		if e := r.Entry(); !zero(e) {
			t.Errorf("Data of %d: %v", size, e)
		}
		isBad(t, fmt.Sprintf("Data of %d", size), r)
	}
}

func TestReadEntryThatIsCut(t *testing.T) { // P2.2
	whole := wire.Entry(api.Entry{Term: 1, Kind: 4, Version: 2, Server: 3, Good: true, Data: []byte("xyz")})
	for n := range whole {
		r := wire.NewReader(whole[:n])
		if e := r.Entry(); !zero(e) {
			t.Errorf("of %d bytes: %v", n, e)
		}
		isBad(t, fmt.Sprintf("an entry of %d bytes", n), r)
	}
}

func TestReaderStands(t *testing.T) { // P2.2: at the first byte, then behind what was read
	isDone(t, "of nil", wire.NewReader(nil))
	isDone(t, "of no bytes", wire.NewReader([]byte{}))
	r := wire.NewReader([]byte{0})
	isAmid(t, "of a byte", r)
	isAmid(t, "asked again", r)
	r = wire.NewReader(row([]byte("ab"), 1, 2, 2))
	if a, b, c := r.Number(), r.Number(), r.Bytes(); a != 1 || b != 2 || string(c) != "ab" {
		t.Errorf("%d, %d, %q", a, b, c)
	}
	isDone(t, "all read", r)
	if r.Number() != 0 {
		t.Error("read behind the end")
	}
	isBad(t, "read behind the end", r)
}

func TestReaderHasItsOwnBytes(t *testing.T) { // P2.2, R3
	b := wire.Join(wire.Number(5), wire.Bytes([]byte("abc")), wire.Entry(api.Entry{Term: 6, Data: []byte("de")}), wire.Number(7))
	given := bytes.Clone(b)
	r := wire.NewReader(b)
	clear(b)
	n, text := r.Number(), r.Bytes()
	grown := append(text, 0xff, 0xff, 0xff) // few enough for the room that a piece of a greater list has
	e := r.Entry()
	more := append(e.Data, 0xff, 0xff, 0xff)
	last := r.Number()
	if n != 5 || string(text) != "abc" || e.Term != 6 || string(e.Data) != "de" || last != 7 || !r.Done() {
		t.Errorf("the reader hangs on bytes of others: %d, %q, %v, %d", n, text, e, last)
	}
	grown[0], more[0] = 'X', 'X'

	again := bytes.Clone(given)
	r = wire.NewReader(again)
	r.Number()
	clear(r.Bytes())
	clear(r.Entry().Data)
	r.Number()
	if !bytes.Equal(again, given) {
		t.Error("the reader's answers share its argument's bytes")
	}
}

func TestReadersAreApart(t *testing.T) { // P2.2, R4
	b := row(nil, 1, 2, 3)
	r, s := wire.NewReader(b), wire.NewReader(b)
	if x := r.Bytes(); len(x) != 1 || s.Number() != 1 || s.Number() != 2 || s.Number() != 3 || !s.Done() {
		t.Error("two readers of the same bytes hang together")
	}
	if r.Entry(); !r.Bad() || s.Bad() {
		t.Errorf("Bad %v, of the other %v", r.Bad(), s.Bad())
	}
}

func TestBadStaysBad(t *testing.T) { // P2.3: all that is behind could be read
	rest := wire.Join(wire.Number(1), wire.Entry(api.Entry{Term: 1, Data: []byte("a")}), wire.Bytes([]byte("bc")), wire.Number(0))
	for name, spoil := range map[string]func() *wire.Reader{
		"by Bytes": func() *wire.Reader {
			r := wire.NewReader(wire.Join(wire.Number(-1), rest))
			r.Bytes()
			return r
		},
		"by Bytes of too few": func() *wire.Reader {
			r := wire.NewReader(wire.Join(wire.Number(1000), rest))
			r.Bytes()
			return r
		},
		"by Entry": func() *wire.Reader {
			r := wire.NewReader(wire.Join(row(nil, 1, 256, 1, 1, 1), rest))
			r.Entry()
			return r
		},
		"by Number": func() *wire.Reader {
			r := wire.NewReader(make([]byte, 7))
			r.Number()
			return r
		},
		"at the end": func() *wire.Reader {
			r := wire.NewReader(nil)
			r.Number()
			return r
		},
	} {
		isBad(t, name, spoil())
		r := spoil()
		if n := r.Number(); n != 0 {
			t.Errorf("%s: then Number: %d", name, n)
		}
		if b := spoil().Bytes(); len(b) != 0 {
			t.Errorf("%s: then Bytes: %q", name, b)
		}
		if e := spoil().Entry(); !zero(e) {
			t.Errorf("%s: then Entry: %v", name, e)
		}
	}
}

func TestReadersThatNobodyMade(t *testing.T) { // P2.3, R5
	var none *wire.Reader
	isBad(t, "none", none)
	isBad(t, "an empty one", &wire.Reader{})
	isBad(t, "a new one", new(wire.Reader))
	copied := *wire.NewReader(row(nil, 1, 2))
	isBad(t, "a copy, which no call answered", &copied)
	r := wire.NewReader(row(nil, 1))
	isBad(t, "an empty one beside a sound one", &wire.Reader{})
	if r.Number() != 1 || !r.Done() {
		t.Error("one that nobody made spoils one that was made")
	}
}

// item is something that is written, and how it is read: is tells whether it came back, none whether nothing did.
type item struct {
	bytes []byte
	is    func(r *wire.Reader) bool
	none  func(r *wire.Reader) bool
}

func drawItem(draw *rand.Rand) item {
	data := make([]byte, draw.Intn(20))
	draw.Read(data)
	n := int(draw.Uint64()) >> draw.Intn(64)
	switch draw.Intn(3) {
	case 0:
		return item{wire.Number(n), func(r *wire.Reader) bool { return r.Number() == n }, func(r *wire.Reader) bool { return r.Number() == 0 }}
	case 1:
		return item{wire.Bytes(data), func(r *wire.Reader) bool { return bytes.Equal(r.Bytes(), data) }, func(r *wire.Reader) bool { return len(r.Bytes()) == 0 }}
	}
	e := api.Entry{Term: n, Kind: api.EntryKind(draw.Intn(256)), Version: draw.Intn(9), Server: -n, Good: draw.Intn(2) == 1, Data: data}
	return item{wire.Entry(e), func(r *wire.Reader) bool { return same(r.Entry(), e) }, func(r *wire.Reader) bool { return zero(r.Entry()) }}
}

func drawItems(draw *rand.Rand) ([]item, []byte) {
	items, parts := []item{}, [][]byte{}
	for range 1 + draw.Intn(6) {
		i := drawItem(draw)
		items, parts = append(items, i), append(parts, i.bytes)
	}
	return items, wire.Join(parts...)
}

func TestWhatIsWrittenIsRead(t *testing.T) { // P2.4
	draw := rand.New(rand.NewSource(2))
	for round := range 300 {
		items, whole := drawItems(draw)
		r := wire.NewReader(whole)
		for i, x := range items {
			isAmid(t, "ahead of an item", r)
			if !x.is(r) {
				t.Fatalf("round %d: item %d is read as another", round, i)
			}
		}
		isDone(t, "all items read", r)
	}
}

func TestBeginningsAreNotReadWhole(t *testing.T) { // P2.4
	draw := rand.New(rand.NewSource(3))
	for round := range 60 {
		items, whole := drawItems(draw)
		for n := range whole {
			r, ends := wire.NewReader(whole[:n]), 0
			for i, x := range items {
				ends += len(x.bytes)
				if ends <= n && !x.is(r) || ends > n && !x.none(r) {
					t.Fatalf("round %d, cut at %d of %d: item %d", round, n, len(whole), i)
				}
				if r.Bad() != (ends > n) {
					t.Fatalf("round %d, cut at %d of %d: behind item %d Bad is %v", round, n, len(whole), i, r.Bad())
				}
			}
			isBad(t, "a beginning", r)
		}
	}
}

func TestAnyBytesAreRead(t *testing.T) { // R1, R4: whatever the bytes are, it ends, and alike each time
	draw := rand.New(rand.NewSource(4))
	for range 2000 {
		b := make([]byte, draw.Intn(90))
		for i := range b {
			b[i] = byte(draw.Intn(3) * draw.Intn(2) * draw.Intn(2))
		}
		r, s := wire.NewReader(b), wire.NewReader(b)
		for range 6 {
			if x, y := r.Entry(), s.Entry(); !same(x, y) || r.Bad() && !zero(x) {
				t.Fatalf("%x: %v, %v", b, x, y)
			}
			if x, y := r.Bytes(), s.Bytes(); !bytes.Equal(x, y) || r.Bad() && len(x) != 0 {
				t.Fatalf("%x: %x, %x", b, x, y)
			}
			if r.Bad() != s.Bad() || r.Done() != s.Done() || r.Bad() && r.Done() {
				t.Fatalf("%x: Bad %v, %v, Done %v, %v", b, r.Bad(), s.Bad(), r.Done(), s.Done())
			}
		}
	}
}
