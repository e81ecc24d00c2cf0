package frame_test

import (
	"bytes"
	"fmt"
	"hash/crc32"
	"math"
	"math/rand"
	"testing"

	"barbican/api"
	"barbican/frame"
)

const head = 9

// wantedSum goes bit by bit, by the document's words.
func wantedSum(b []byte) uint32 {
	word := uint32(math.MaxUint32)
	for _, x := range b {
		word ^= uint32(x)
		for range 8 {
			fell := word & 1
			word >>= 1
			if fell == 1 {
				word ^= 0x82F63B78
			}
		}
	}
	return word ^ math.MaxUint32
}

func four(n uint32) []byte {
	return []byte{byte(n / (1 << 24)), byte(n / (1 << 16) % 256), byte(n / 256 % 256), byte(n % 256)}
}

// raw is bytes that look like a frame's, whatever length they say; the sum fits.
func raw(kind byte, says uint32, data []byte) []byte {
	ahead := append([]byte{kind}, four(says)...)
	sum := wantedSum(append(bytes.Clone(ahead), data...))
	return append(append(ahead, four(sum)...), data...)
}

func wantedBytes(frames ...frame.Frame) []byte {
	var b []byte
	for _, f := range frames {
		b = append(b, raw(byte(f.Kind), uint32(len(f.Data)), f.Data)...)
	}
	return b
}

// wantedScan reads by the document's words.
func wantedScan(b []byte) (frames []frame.Frame, used int, spoilt bool) {
	for len(b) >= head {
		says := int(b[1])*(1<<24) + int(b[2])*(1<<16) + int(b[3])*256 + int(b[4])
		if says > 1<<18 {
			return frames, used, true
		}
		if len(b) < head+says {
			break
		}
		data := b[head : head+says]
		if !bytes.Equal(b[:head+says], raw(b[0], uint32(says), data)) {
			return frames, used, true
		}
		frames = append(frames, frame.Frame{Kind: int(b[0]), Data: data})
		used += head + says
		b = b[head+says:]
	}
	return frames, used, false
}

// same takes a nil list and an empty one as one.
func same(a, b []frame.Frame) bool {
	if len(a) != len(b) {
		return false
	}
	for i := range a {
		if a[i].Kind != b[i].Kind || !bytes.Equal(a[i].Data, b[i].Data) {
			return false
		}
	}
	return true
}

func put(t *testing.T, frames ...frame.Frame) []byte {
	t.Helper()
	b, e := frame.Put(frames...)
	if e != api.OK {
		t.Fatalf("Put of %d frames: %v", len(frames), e)
	}
	return b
}

// scans asks what Scan answers, twice, since one thing is answered alike each time (R4).
func scans(t *testing.T, name string, b []byte, frames []frame.Frame, used int, spoilt bool) {
	t.Helper()
	given := bytes.Clone(b)
	for range 2 {
		l, u, s := frame.Scan(b)
		if !same(l, frames) || u != used || s != spoilt {
			t.Fatalf("%s: %d frames, %d, %v; wanted %d, %d, %v", name, len(l), u, s, len(frames), used, spoilt)
		}
	}
	if !bytes.Equal(b, given) {
		t.Fatalf("%s: Scan changed its argument", name)
	}
}

func drawFrames(draw *rand.Rand, most, size int) []frame.Frame {
	var l []frame.Frame
	for range draw.Intn(most + 1) {
		data := make([]byte, draw.Intn(size+1))
		draw.Read(data)
		l = append(l, frame.Frame{Kind: draw.Intn(256), Data: data})
	}
	return l
}

// ends are where each of the frames' bytes ends.
func ends(frames []frame.Frame) []int {
	var l []int
	end := 0
	for _, f := range frames {
		end += head + len(f.Data)
		l = append(l, end)
	}
	return l
}

func TestSumByHand(t *testing.T) { // P3.1
	rising, falling := make([]byte, 32), make([]byte, 32)
	for i := range rising {
		rising[i], falling[i] = byte(i), byte(31-i)
	}
	for _, c := range []struct {
		name string
		b    []byte
		want uint32
	}{
		{"nil", nil, 0},
		{"none", []byte{}, 0},
		{"example: digits", []byte("123456789"), 0xE3069283},
		{"a", []byte("a"), 0xC1D04330},
		{"a nought", []byte{0}, 0x527D5351},
		{"noughts", make([]byte, 32), 0x8A9136AA},
		{"ones", bytes.Repeat([]byte{255}, 32), 0x62A8AB43},
		{"rising", rising, 0x46DD794E},
		{"falling", falling, 0x113FDB5C},
	} {
		if got := frame.Sum(c.b); got != c.want {
			t.Errorf("%s: %#x", c.name, got)
		}
	}
}

func TestSumOfEachByte(t *testing.T) { // P3.1
	for x := range 256 {
		for _, b := range [][]byte{{byte(x)}, {0, byte(x)}, {byte(x), 0}, {255, byte(x), 128}} {
			if got := frame.Sum(b); got != wantedSum(b) {
				t.Errorf("%x: %#x, wanted %#x", b, got, wantedSum(b))
			}
		}
	}
}

func TestSumOfMany(t *testing.T) { // P3.1
	draw := rand.New(rand.NewSource(1))
	table := crc32.MakeTable(crc32.Castagnoli)
	for _, n := range []int{1, 2, 3, 4, 5, 7, 8, 9, 15, 16, 17, 255, 256, 1000, 1 << 16, 1<<18 + 5, 1 << 20} {
		b := make([]byte, n)
		draw.Read(b)
		given := bytes.Clone(b)
		if got := frame.Sum(b); got != wantedSum(b) || got != crc32.Checksum(b, table) {
			t.Errorf("of %d bytes: %#x, wanted %#x", n, got, wantedSum(b))
		}
		if !bytes.Equal(b, given) {
			t.Errorf("Sum of %d bytes changed them", n)
		}
	}
}

func TestPutByHand(t *testing.T) { // P3.1
	for _, c := range []struct {
		name   string
		frames []frame.Frame
		want   []byte
	}{
		{"no frame", nil, nil},
		{"example", []frame.Frame{{Kind: 7, Data: []byte("a")}}, []byte{7, 0, 0, 0, 1, 0x51, 0x6c, 0x08, 0x31, 'a'}},
		{"nothing in it", []frame.Frame{{}}, append([]byte{0, 0, 0, 0, 0}, four(wantedSum(make([]byte, 5)))...)},
		{"no Data, but a list", []frame.Frame{{Data: []byte{}}}, wantedBytes(frame.Frame{})},
		{"the greatest Kind", []frame.Frame{{Kind: 255, Data: []byte{0}}}, raw(255, 1, []byte{0})},
		{"two", []frame.Frame{{Kind: 1, Data: []byte("ab")}, {Kind: 2}}, append(raw(1, 2, []byte("ab")), raw(2, 0, nil)...)},
		{"two, the other way round", []frame.Frame{{Kind: 2}, {Kind: 1, Data: []byte("ab")}}, append(raw(2, 0, nil), raw(1, 2, []byte("ab"))...)},
	} {
		if got := put(t, c.frames...); !bytes.Equal(got, c.want) {
			t.Errorf("%s: %x, wanted %x", c.name, got, c.want)
		}
	}
	if got := put(t); len(got) != 0 {
		t.Errorf("Put(): %x", got)
	}
}

func TestPutOfAllKinds(t *testing.T) { // P3.1
	for kind := range 256 {
		f := frame.Frame{Kind: kind, Data: []byte("some")}
		if got := put(t, f); !bytes.Equal(got, wantedBytes(f)) {
			t.Errorf("Kind %d: %x", kind, got)
		}
	}
}

func TestPutOfAllLengths(t *testing.T) { // P3.1: each byte of the length plays its part
	draw := rand.New(rand.NewSource(2))
	for _, n := range []int{1, 2, 8, 9, 255, 256, 257, 65535, 65536, 65537, 1<<18 - 1, 1 << 18} {
		f := frame.Frame{Kind: n % 256, Data: make([]byte, n)}
		draw.Read(f.Data)
		if got := put(t, f); !bytes.Equal(got, wantedBytes(f)) || len(got) != head+n {
			t.Errorf("Data of %d: %d bytes, %x", n, len(got), got[:head])
		}
	}
}

func TestPutRefuses(t *testing.T) { // P3.1: the first error, frame by frame
	long, most, good := make([]byte, 1<<18+1), make([]byte, 1<<18), frame.Frame{Kind: 3, Data: []byte("good")}
	for _, c := range []struct {
		name   string
		frames []frame.Frame
		err    api.Errno
	}{
		{"Kind below 0", []frame.Frame{{Kind: -1}}, api.ErrArg},
		{"Kind far below 0", []frame.Frame{{Kind: math.MinInt}}, api.ErrArg},
		{"Kind above 255", []frame.Frame{{Kind: 256}}, api.ErrArg},
		{"Kind far above 255", []frame.Frame{{Kind: math.MaxInt}}, api.ErrArg},
		{"a byte would say 7", []frame.Frame{{Kind: 256 + 7}}, api.ErrArg},
		{"32 bits would say 7", []frame.Frame{{Kind: 1<<32 + 7}}, api.ErrArg},
		{"Data by one too long", []frame.Frame{{Data: long}}, api.ErrLong},
		{"Data far too long", []frame.Frame{{Kind: 255, Data: make([]byte, 1<<20)}}, api.ErrLong},
		{"Data as long as may be", []frame.Frame{{Data: most}}, api.OK},
		{"both errors", []frame.Frame{{Kind: 256, Data: long}}, api.ErrArg},
		{"both errors, below 0", []frame.Frame{{Kind: -1, Data: long}}, api.ErrArg},
		{"Kind behind Data", []frame.Frame{{Data: long}, {Kind: -1}}, api.ErrLong},
		{"Data behind Kind", []frame.Frame{{Kind: -1}, {Data: long}}, api.ErrArg},
		{"Kind last", []frame.Frame{good, good, {Kind: 300}}, api.ErrArg},
		{"Kind first", []frame.Frame{{Kind: 300}, good, good}, api.ErrArg},
		{"Data amid", []frame.Frame{good, {Data: long}, good, {Kind: 300}}, api.ErrLong},
	} {
		b, e := frame.Put(c.frames...)
		if e != c.err || e != api.OK && len(b) != 0 {
			t.Errorf("%s: %d bytes, %v", c.name, len(b), e)
		}
	}
}

func TestPutKeepsAndChangesNothing(t *testing.T) { // P3.1, R3
	room := []byte("ab......")
	frames := []frame.Frame{{Kind: 1, Data: room[:2]}, {Kind: 2, Data: []byte("cd")}}
	first, second := put(t, frames...), put(t, frames...)
	if string(room) != "ab......" || string(frames[1].Data) != "cd" || frames[0].Kind != 1 || len(frames[0].Data) != 2 {
		t.Errorf("Put changed its arguments: %q, %v", room, frames)
	}
	room[0], frames[1].Data[0] = 'X', 'X'
	if string(first[9:11]) != "ab" || string(first[20:22]) != "cd" {
		t.Errorf("an answer shares its arguments' bytes: %q", first)
	}
	clear(first)
	if string(room) != "Xb......" || string(second[9:11]) != "ab" {
		t.Errorf("what Put answered is shared: %q, %q", room, second)
	}
}

func TestScanByHand(t *testing.T) { // P3.2
	a := raw(7, 1, []byte("a"))
	fa := frame.Frame{Kind: 7, Data: []byte("a")}
	none := raw(0, 0, nil)
	other := bytes.Clone(a)
	other[9] = 0x62
	for _, c := range []struct {
		name   string
		b      []byte
		frames []frame.Frame
		used   int
		spoilt bool
	}{
		{"nil", nil, nil, 0, false},
		{"no bytes", []byte{}, nil, 0, false},
		{"one byte", []byte{7}, nil, 0, false},
		{"example", a, []frame.Frame{fa}, 10, false},
		{"example: without its last byte", a[:9], nil, 0, false},
		{"example: with another", other, nil, 0, true},
		{"no Data", none, []frame.Frame{{}}, 9, false},
		{"no Data, a byte too few", none[:8], nil, 0, false},
		{"nine noughts", make([]byte, 9), nil, 0, true},
		{"eight noughts", make([]byte, 8), nil, 0, false},
		{"one, and a beginning", append(bytes.Clone(a), a[:9]...), []frame.Frame{fa}, 10, false},
		{"one, and a byte", append(bytes.Clone(a), 0), []frame.Frame{fa}, 10, false},
		{"one, and another with another byte", append(bytes.Clone(a), other...), []frame.Frame{fa}, 10, true},
		{"another byte, and then one", append(bytes.Clone(other), a...), nil, 0, true},
		{"a beginning, and then one that stands in its Data", append(raw(1, 100, nil), a...), nil, 0, false},
		{"three, alike", bytes.Repeat(a, 3), []frame.Frame{fa, fa, fa}, 30, false},
		{"one, none, one", bytes.Join([][]byte{a, none, a}, nil), []frame.Frame{fa, {}, fa}, 29, false},
	} {
		scans(t, c.name, c.b, c.frames, c.used, c.spoilt)
	}
}

func TestScanOfLengths(t *testing.T) { // P3.2: a length of at most MaxFrame, and all of it there
	most := bytes.Repeat([]byte("full"), 1<<16)
	long := append(bytes.Clone(most), 'x')
	fits := raw(9, 1<<18, most)
	first := frame.Frame{Kind: 1, Data: []byte("first")}
	for _, c := range []struct {
		name   string
		b      []byte
		frames []frame.Frame
		spoilt bool
	}{
		{"the greatest length, whole", fits, []frame.Frame{{Kind: 9, Data: most}}, false},
		{"the greatest length, a byte too few", fits[:len(fits)-1], nil, false},
		{"the greatest length, nine bytes", fits[:head], nil, false},
		{"by one too long, whole", raw(9, 1<<18+1, long), nil, true},
		{"by one too long, nine bytes", raw(9, 1<<18+1, long)[:head], nil, true},
		{"by one too long, eight bytes", raw(9, 1<<18+1, long)[:head-1], nil, false},
		{"too long, five bytes", []byte{0, 255, 255, 255, 255}, nil, false},
		{"too long by the highest bit", raw(0, 1<<31, nil), nil, true},
		{"too long by all bits", raw(0, math.MaxUint32, nil), nil, true},
		{"wraps to what is left", raw(0, math.MaxUint32-8, nil), nil, true},
		{"18 bits would say one", raw(0, 1<<18+1, []byte("a")), nil, true},
		{"24 bits would say one", raw(0, 1<<24+1, []byte("a")), nil, true},
		{"more than is there, and the sum fits", raw(0, 2, []byte("a")), nil, false},
		{"less than is there, and the sum fits all", raw(0, 1, []byte("ab")), nil, true},
		{"as much as is there, no sum", append([]byte{0, 0, 0, 0, 1, 0, 0, 0, 0}, 'a'), nil, true},
		{"more than is there, no sum", append([]byte{0, 0, 0, 0, 2, 0, 0, 0, 0}, 'a'), nil, false},
	} {
		used := 0
		for _, end := range ends(c.frames) {
			used = end
		}
		scans(t, c.name, c.b, c.frames, used, c.spoilt)
		ahead := wantedBytes(first)
		scans(t, "behind one: "+c.name, append(ahead, c.b...), append([]frame.Frame{first}, c.frames...), len(ahead)+used, c.spoilt)
	}
}

func TestScanSumsAll(t *testing.T) { // P3.2: the sum is of Kind, the length and Data, by any bit
	f := frame.Frame{Kind: 5, Data: []byte("data")}
	whole := wantedBytes(f, f)
	for bit := range 8 * len(whole) {
		b := bytes.Clone(whole)
		b[bit/8] ^= 1 << (bit % 8)
		frames, used, spoilt := wantedScan(b)
		scans(t, fmt.Sprintf("bit %d turned", bit), b, frames, used, spoilt)
		if amid := bit / 8 % 13; (amid == 0 || amid >= 5) && !spoilt || len(frames) != bit/8/13 {
			t.Fatalf("bit %d: %d frames, %v", bit, len(frames), spoilt)
		}
	}
}

func TestScanOfAnyBytes(t *testing.T) { // P3.2, R1
	draw := rand.New(rand.NewSource(3))
	for range 3000 {
		b := wantedBytes(drawFrames(draw, 4, 12)...)
		for range draw.Intn(3) {
			if len(b) > 0 {
				b[draw.Intn(len(b))] = byte(draw.Intn(4) * draw.Intn(86))
			}
		}
		switch draw.Intn(4) {
		case 0:
			b = b[draw.Intn(len(b)+1):]
		case 1:
			b = b[:draw.Intn(len(b)+1)]
		case 2:
			tail := make([]byte, draw.Intn(20))
			draw.Read(tail)
			b = append(b, tail...)
		}
		frames, used, spoilt := wantedScan(b)
		scans(t, fmt.Sprintf("%x", b), b, frames, used, spoilt)
	}
}

func TestScanAnswersNewMemory(t *testing.T) { // P3.2, R3
	whole := wantedBytes(frame.Frame{Kind: 1, Data: []byte("ab")}, frame.Frame{Kind: 2, Data: []byte("cd")}, frame.Frame{Kind: 3})
	b := bytes.Clone(whole)
	l, _, _ := frame.Scan(b)
	grown := append(l[0].Data, bytes.Repeat([]byte{255}, 20)...)
	small, none := append(l[0].Data, 255), append(l[2].Data, 255)
	grown[0], small[0], none[0] = 'X', 'X', 'X'
	if !bytes.Equal(b, whole) || string(l[1].Data) != "cd" {
		t.Errorf("what is written behind Data is shared: %x, %q", b, l[1].Data)
	}
	clear(l[1].Data)
	if !bytes.Equal(b, whole) {
		t.Error("Data shares the argument's bytes")
	}
	again, _, _ := frame.Scan(b)
	clear(b)
	if string(again[0].Data) != "ab" || string(again[1].Data) != "cd" {
		t.Errorf("Data hangs on the argument's bytes: %v", again)
	}
}

func TestWhatIsPutIsScanned(t *testing.T) { // P3.3
	draw := rand.New(rand.NewSource(4))
	for range 300 {
		frames := drawFrames(draw, 6, 300)
		b := put(t, frames...)
		scans(t, "all that was put", b, frames, len(b), false)
	}
	frames := make([]frame.Frame, 20000)
	for i := range frames {
		frames[i] = frame.Frame{Kind: i % 256, Data: four(uint32(i))[:i%5]}
	}
	b := put(t, frames...)
	scans(t, "many", b, frames, len(b), false)
}

func TestBeginningsAreNotSpoilt(t *testing.T) { // P3.3
	draw := rand.New(rand.NewSource(5))
	for range 60 {
		frames := drawFrames(draw, 5, 40)
		b := put(t, frames...)
		for n := range len(b) + 1 {
			whole, used := 0, 0
			for i, end := range ends(frames) {
				if end <= n {
					whole, used = i+1, end
				}
			}
			scans(t, fmt.Sprintf("cut at %d of %d", n, len(b)), b[:n], frames[:whole], used, false)
		}
	}
}

// turned is b with bits of the pattern turned from the given bit on, in each byte from the lowest one on.
func turned(b []byte, from int, pattern uint32) []byte {
	c := bytes.Clone(b)
	for i := range 32 {
		if pattern>>i&1 == 1 {
			c[(from+i)/8] ^= 1 << ((from + i) % 8)
		}
	}
	return c
}

func TestTurnedBitsAreSeen(t *testing.T) { // P3.3: up to 32 bits of Data, one behind the other
	draw := rand.New(rand.NewSource(6))
	frames := []frame.Frame{{Kind: 1, Data: []byte("ahead")}, {Kind: 2, Data: make([]byte, 24)}, {Kind: 3, Data: []byte("behind")}}
	draw.Read(frames[1].Data)
	b, start := put(t, frames...), head+5
	all := 8 * len(frames[1].Data)
	for from := range all {
		for width := 1; width <= min(32, all-from); width++ {
			full := uint32(1<<width - 1)
			patterns := []uint32{full, 1 | 1<<(width-1), full & (draw.Uint32() | 1 | 1<<(width-1)), full & (draw.Uint32() | 1 | 1<<(width-1))}
			for _, p := range patterns {
				c := turned(b, 8*(start+head)+from, p)
				scans(t, fmt.Sprintf("%#x turned at bit %d", p, from), c, frames[:1], start, true)
			}
		}
	}
}

func TestTurnedBitsOfTheGreatestFrame(t *testing.T) { // P3.3, at the limit
	draw := rand.New(rand.NewSource(7))
	f := frame.Frame{Kind: 200, Data: make([]byte, 1<<18)}
	draw.Read(f.Data)
	b := put(t, f, frame.Frame{Kind: 1})
	scans(t, "whole", b, []frame.Frame{f, {Kind: 1}}, len(b), false)
	for _, from := range []int{0, 1, 8*1<<18 - 32, 8*1<<17 + 5, 8*1<<18 - 32 - draw.Intn(1<<20)} {
		scans(t, fmt.Sprintf("turned at bit %d", from), turned(b, 8*head+from, draw.Uint32()|1), nil, 0, true)
	}
}
