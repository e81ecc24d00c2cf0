package mac_test

import (
	"bytes"
	"crypto/hmac"
	"crypto/sha256"
	"encoding/hex"
	"math/rand"
	"strings"
	"sync"
	"testing"

	"barbican/mac"
	"barbican/sha"
)

func random(r *rand.Rand, n int) []byte {
	b := make([]byte, n)
	r.Read(b)
	return b
}

// turnedBits turns in x those bits that n has, one after another.
func turnedBits(x, n byte) byte {
	for place := range 8 {
		if n/(1<<place)%2 == 0 {
			continue
		}
		if x/(1<<place)%2 == 0 {
			x += 1 << place
		} else {
			x -= 1 << place
		}
	}
	return x
}

func keyUnder(key []byte, n byte) []byte {
	if len(key) > 64 {
		sum := sha256.Sum256(key)
		key = sum[:]
	}
	var out []byte
	for i := range 64 {
		var x byte
		if i < len(key) {
			x = key[i]
		}
		out = append(out, turnedBits(x, n))
	}
	return out
}

// wordsTag goes by the document's words, with the library's digest.
func wordsTag(key, b []byte) []byte {
	inner := sha256.Sum256(append(keyUnder(key, 0x36), b...))
	outer := sha256.Sum256(append(keyUnder(key, 0x5C), inner[:]...))
	return outer[:]
}

func libraryTag(key, b []byte) []byte {
	h := hmac.New(sha256.New, key)
	h.Write(b)
	return h.Sum(nil)
}

// checkTag asks for that very tag, and that it alone fits.
func checkTag(t *testing.T, key, b, want []byte) {
	t.Helper()
	if got := mac.Tag(key, b); !bytes.Equal(got, want) {
		t.Errorf("Tag of a key of %d and %d bytes: %x, wanted %x", len(key), len(b), got, want)
	}
	if !mac.Fits(key, b, want) {
		t.Errorf("the tag of a key of %d and %d bytes does not fit", len(key), len(b))
	}
}

// P5.1, P5.2: tags known from elsewhere (RFC 4231).
func TestKnownTags(t *testing.T) {
	long := strings.Repeat("\xaa", 131)
	rising := ""
	for i := range 25 {
		rising += string(rune(i + 1))
	}
	for _, c := range []struct{ key, text, want string }{
		{"", "", "b613679a0814d9ec772f95d778c35fc5ff1697c493715653c6c712144292c5ad"},
		{"Jefe", "what do ya want for nothing?", "5bdcc146bf60754e6a042426089575c75a003f089d2739839dec58b964ec3843"},
		{strings.Repeat("\x0b", 20), "Hi There", "b0344c61d8db38535ca8afceaf0bf12b881dc200c9833da726e9376c2e32cff7"},
		{strings.Repeat("\xaa", 20), strings.Repeat("\xdd", 50), "773ea91e36800e46854db8ebd09181a72959098b3ef8c122d9635514ced565fe"},
		{rising, strings.Repeat("\xcd", 50), "82558a389a443c0ea4cc819899f2083a85f0faa3e578f8077a2e3ff46729665b"},
		{long, "Test Using Larger Than Block-Size Key - Hash Key First", "60e431591ee0b67f0d8a26aacbf5b77f8e0bc6213728c5140546040f0ee37f54"},
		{long, "This is a test using a larger than block-size key and a larger than block-size data. The key needs to be hashed before being used by the HMAC algorithm.", "9b09ffa71b942fcb27635fbcd5b0e944bfdc63644f0713938a7f51535c3a35e2"},
		{"key", "The quick brown fox jumps over the lazy dog", "f7bc83f430538424b13298e6aa6fb143ef4d59a14946175997479dbc2d1a3cd8"},
	} {
		want, err := hex.DecodeString(c.want)
		if err != nil {
			t.Fatal(err)
		}
		checkTag(t, []byte(c.key), []byte(c.text), want)
	}
}

// The document's example: all but the last byte of what was tagged does not fit.
func TestExample(t *testing.T) {
	key, text := []byte("Jefe"), []byte("what do ya want for nothing?")
	tag := mac.Tag(key, text)
	if mac.Fits(key, text[:len(text)-1], tag) {
		t.Error("bytes without their last one fit")
	}
	other := bytes.Clone(text)
	other[len(other)-1] = '!'
	if mac.Fits(key, other, tag) {
		t.Error("bytes with another last one fit")
	}
}

// P5.1, P5.2: each length of a key about one block and two, and of bytes about the digest's blocks.
func TestEachLength(t *testing.T) {
	r := rand.New(rand.NewSource(5))
	sizes := []int{0, 1, 31, 32, 33, 54, 55, 56, 57, 63, 64, 65, 119, 120, 127, 128, 129, 1000}
	for n := range 131 {
		for kind, key := range [][]byte{random(r, n), make([]byte, n), bytes.Repeat([]byte{255}, n)} {
			for _, size := range sizes {
				b := random(r, size)
				want := libraryTag(key, b)
				checkTag(t, key, b, want)
				if kind == 0 && !bytes.Equal(want, wordsTag(key, b)) {
					t.Fatalf("by the words the tag of a key of %d and %d bytes is %x", n, size, wordsTag(key, b))
				}
			}
		}
	}
}

// P5.1: longer ones.
func TestLongOnes(t *testing.T) {
	r := rand.New(rand.NewSource(51))
	for _, c := range []struct{ key, text int }{{1 << 20, 3}, {3, 1 << 20}, {100000, 100001}, {64, 1 << 21}} {
		key, b := random(r, c.key), random(r, c.text)
		checkTag(t, key, b, libraryTag(key, b))
	}
}

// R6: a key, bytes, a tag that are nil, and such without elements, are one.
func TestNoBytes(t *testing.T) {
	none := [][]byte{nil, {}, make([]byte, 0, 80)}
	want := libraryTag(nil, nil)
	for _, key := range none {
		for _, b := range none {
			checkTag(t, key, b, want)
			for _, tag := range none {
				if mac.Fits(key, b, tag) {
					t.Error("no tag fits")
				}
			}
		}
	}
	for _, b := range none {
		checkTag(t, []byte("key"), b, libraryTag([]byte("key"), nil))
		checkTag(t, b, []byte("text"), libraryTag(nil, []byte("text")))
	}
}

// P5.3: noughts behind a key, up to 64 bytes, change nothing; behind these they do.
func TestNoughtsBehindKey(t *testing.T) {
	r := rand.New(rand.NewSource(52))
	text := random(r, 77)
	for _, n := range []int{0, 1, 4, 31, 32, 33, 62, 63, 64} {
		key := random(r, n)
		if n > 0 {
			key[n-1] |= 1
		}
		tag := mac.Tag(key, text)
		for size := n; size <= 140; size++ {
			longer := append(bytes.Clone(key), make([]byte, size-n)...)
			same := size <= 64
			if bytes.Equal(mac.Tag(longer, text), tag) != same || mac.Fits(longer, text, tag) != same {
				t.Errorf("a key of %d bytes with noughts up to %d: the same tag where it may not be, or another", n, size)
			}
		}
	}
}

// P5.3: noughts ahead of a key are another key.
func TestNoughtAheadOfKey(t *testing.T) {
	for _, n := range []int{1, 20, 63} {
		key := bytes.Repeat([]byte{7}, n)
		if mac.Fits(append([]byte{0}, key...), nil, mac.Tag(key, nil)) {
			t.Errorf("a key of %d bytes and that with a nought ahead have one tag", n)
		}
	}
}

// P5.3: the digest of a long key stands for it, that of one of up to 64 bytes does not.
func TestDigestForKey(t *testing.T) {
	r := rand.New(rand.NewSource(53))
	text := random(r, 30)
	for _, n := range []int{0, 1, 32, 33, 63, 64, 65, 66, 127, 128, 129, 5000} {
		key := random(r, n)
		sum := sha.Sum(key)
		same := n > 64
		if bytes.Equal(mac.Tag(key, text), mac.Tag(sum, text)) != same || mac.Fits(sum, text, mac.Tag(key, text)) != same {
			t.Errorf("a key of %d bytes and its digest: the same tag where it may not be, or another", n)
		}
	}
}

// P5.3: a tag that is turned in a bit does not fit, whichever it is.
func TestTurnedTag(t *testing.T) {
	key, text := []byte("key"), []byte("text")
	tag := mac.Tag(key, text)
	for bit := range 8 * len(tag) {
		turned := bytes.Clone(tag)
		turned[bit/8] ^= 1 << (bit % 8)
		if mac.Fits(key, text, turned) {
			t.Errorf("a tag turned in bit %d fits", bit)
		}
	}
	for i := range tag {
		other := bytes.Clone(tag)
		other[i] = ^other[i]
		if mac.Fits(key, text, other) {
			t.Errorf("a tag with another byte %d fits", i)
		}
	}
}

// P5.3: a tag that is cut, at either end, or longer does not fit.
func TestTagOfOtherLength(t *testing.T) {
	key, text := []byte("key"), []byte("text")
	tag := mac.Tag(key, text)
	for n := range tag {
		if mac.Fits(key, text, tag[:n]) || mac.Fits(key, text, tag[n+1:]) {
			t.Errorf("a tag cut at %d fits", n)
		}
	}
	for _, more := range [][]byte{{0}, {1}, tag, make([]byte, 32), make([]byte, 1000)} {
		if mac.Fits(key, text, append(bytes.Clone(tag), more...)) {
			t.Errorf("a tag with %d bytes behind it fits", len(more))
		}
		if mac.Fits(key, text, append(bytes.Clone(more), tag...)) {
			t.Errorf("a tag with %d bytes ahead of it fits", len(more))
		}
	}
}

// P5.2: a tag whose last bytes are noughts does not fit where it is cut by them.
func TestTagThatEndsWithNought(t *testing.T) {
	key := []byte("key")
	found := false
	for n := 0; n < 20000 && !found; n++ {
		text := []byte{byte(n), byte(n >> 8)}
		tag := mac.Tag(key, text)
		found = tag[31] == 0
		if found && (mac.Fits(key, text, tag[:31]) || !mac.Fits(key, text, tag)) {
			t.Errorf("the tag of %v, cut by its nought, fits, or the whole one does not", text)
		}
	}
	if !found {
		t.Error("no tag that ends with a nought")
	}
}

// P5.2: another key's, other bytes', a plain digest, and other such tags do not fit.
func TestWrongTags(t *testing.T) {
	key, text := []byte("key"), []byte("text")
	swapped := sha256.Sum256(append(keyUnder(key, 0x36), sha.Sum(append(keyUnder(key, 0x5C), text...))...))
	for i, tag := range [][]byte{
		mac.Tag([]byte("kez"), text),
		mac.Tag([]byte("ke"), text),
		mac.Tag([]byte("keyt"), []byte("ext")),
		mac.Tag(key, []byte("tex")),
		mac.Tag(key, []byte("text\x00")),
		mac.Tag(key, nil),
		mac.Tag(nil, text),
		mac.Tag(text, key),
		sha.Sum(text),
		sha.Sum(append(keyUnder(key, 0x36), text...)),
		swapped[:],
		make([]byte, 32),
		bytes.Repeat([]byte{255}, 32),
	} {
		if mac.Fits(key, text, tag) {
			t.Errorf("wrong tag %d fits", i)
		}
	}
}

// P5.1, P5.2: drawn keys, bytes and tags.
func TestDrawn(t *testing.T) {
	r := rand.New(rand.NewSource(54))
	for range 3000 {
		key, b := random(r, r.Intn(140)), random(r, r.Intn(300))
		want := libraryTag(key, b)
		checkTag(t, key, b, want)
		tag := bytes.Clone(want)
		tag[r.Intn(len(tag))] ^= byte(1 + r.Intn(255))
		if mac.Fits(key, b, tag) || mac.Fits(key, b, random(r, 32)) || mac.Fits(key, append(b, 0), want) {
			t.Errorf("a wrong tag fits a key of %d and %d bytes", len(key), len(b))
		}
	}
}

// R3: no argument is changed, nor what stands behind it, and all three may be of one memory.
func TestArgumentsStay(t *testing.T) {
	whole := random(rand.New(rand.NewSource(55)), 400)
	before := bytes.Clone(whole)
	for n := range 130 {
		key, b := whole[:n], whole[n:2*n]
		want := libraryTag(key, b)
		checkTag(t, key, b, want)
		checkTag(t, key, key, libraryTag(key, key))
		mac.Fits(key, key, whole[:32])
		mac.Fits(key, b, whole[n:n+32])
		if !bytes.Equal(whole, before) {
			t.Fatalf("a key of %d bytes: what was given is changed", n)
		}
	}
}

// R3: an answer is new memory, and nothing is kept of an argument; R4: one thing is answered alike each time.
func TestAnswerIsNew(t *testing.T) {
	key, text := []byte("key"), []byte("text")
	want := libraryTag(key, text)
	first, second := mac.Tag(key, text), mac.Tag(key, text)
	if len(first) != 32 {
		t.Fatalf("a tag of %d bytes", len(first))
	}
	clear(first)
	_ = append(first, 1, 2, 3)
	if !bytes.Equal(second, want) || !bytes.Equal(mac.Tag(key, text), want) {
		t.Error("a tag that was written over shows in another")
	}
	key[0], text[0] = 'x', 'x'
	if !bytes.Equal(second, want) {
		t.Error("an argument that was written over shows in the tag")
	}
	if !bytes.Equal(mac.Tag(key, text), libraryTag(key, text)) || mac.Fits(key, text, want) {
		t.Error("an earlier key or text is kept")
	}
}

// R4: nothing is kept from call to call, so that calls beside one another do not meet.
func TestCallsBesideOneAnother(t *testing.T) {
	var all sync.WaitGroup
	for n := range 16 {
		all.Go(func() {
			key, b := bytes.Repeat([]byte{byte(n)}, 56+n), bytes.Repeat([]byte{byte(n)}, 40+n)
			want := libraryTag(key, b)
			for range 50 {
				if !bytes.Equal(mac.Tag(key, b), want) || !mac.Fits(key, b, want) {
					t.Errorf("another tag of %d bytes", len(b))
				}
			}
		})
	}
	all.Wait()
}
