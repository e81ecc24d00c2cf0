package sha_test

import (
	"bytes"
	"crypto/sha256"
	"encoding/hex"
	"math/big"
	"math/rand"
	"strings"
	"sync"
	"testing"

	"barbican/sha"
)

func primes(n int) []int64 {
	var found []int64
	for p := int64(2); len(found) < n; p++ {
		prime := true
		for _, q := range found {
			prime = prime && p%q != 0
		}
		if prime {
			found = append(found, p)
		}
	}
	return found
}

// rootBits tells the first 32 bits behind the point of the root of that power, by halving.
func rootBits(n, power int64) uint32 {
	goal := new(big.Int).Lsh(big.NewInt(n), uint(32*power))
	root := new(big.Int)
	for bit := 40; bit >= 0; bit-- {
		tried := new(big.Int).SetBit(root, bit, 1)
		if new(big.Int).Exp(tried, big.NewInt(power), nil).Cmp(goal) <= 0 {
			root = tried
		}
	}
	return uint32(root.Uint64() & 0xFFFFFFFF)
}

func turned(word uint32, n int) uint32 {
	for range n {
		fell := word & 1
		word = word/2 + fell*(1<<31)
	}
	return word
}

func moved(word uint32, n int) uint32 {
	for range n {
		word /= 2
	}
	return word
}

func message(b []byte) []byte {
	m := append(bytes.Clone(b), 128)
	for (len(m)+8)%64 != 0 {
		m = append(m, 0)
	}
	bits := uint64(len(b)) * 8
	for place := 7; place >= 0; place-- {
		m = append(m, byte(bits>>(8*place)))
	}
	return m
}

// wantedSum goes by the document's words, bit by bit where they speak of bits.
func wantedSum(b []byte) []byte {
	var k, s []uint32
	for i, p := range primes(64) {
		k = append(k, rootBits(p, 3))
		if i < 8 {
			s = append(s, rootBits(p, 2))
		}
	}
	for m := message(b); len(m) > 0; m = m[64:] {
		var w []uint32
		for t := range 64 {
			if t < 16 {
				w = append(w, uint32(m[4*t])*(1<<24)+uint32(m[4*t+1])*(1<<16)+uint32(m[4*t+2])*256+uint32(m[4*t+3]))
				continue
			}
			x, y := w[t-15], w[t-2]
			s0 := turned(x, 7) ^ turned(x, 18) ^ moved(x, 3)
			s1 := turned(y, 17) ^ turned(y, 19) ^ moved(y, 10)
			w = append(w, w[t-16]+s0+w[t-7]+s1)
		}
		a, b, c, d, e, f, g, h := s[0], s[1], s[2], s[3], s[4], s[5], s[6], s[7]
		for t := range 64 {
			ch, maj := uint32(0), uint32(0)
			for bit := range 32 {
				from := g
				if e>>bit&1 == 1 {
					from = f
				}
				ch += from >> bit & 1 << bit
				if a>>bit&1+b>>bit&1+c>>bit&1 >= 2 {
					maj += 1 << bit
				}
			}
			T := h + (turned(e, 6) ^ turned(e, 11) ^ turned(e, 25)) + ch + k[t] + w[t]
			U := (turned(a, 2) ^ turned(a, 13) ^ turned(a, 22)) + maj
			a, b, c, d, e, f, g, h = T+U, a, b, c, d+T, e, f, g
		}
		for i, word := range []uint32{a, b, c, d, e, f, g, h} {
			s[i] += word
		}
	}
	var out []byte
	for _, word := range s {
		out = append(out, byte(word>>24), byte(word>>16), byte(word>>8), byte(word))
	}
	return out
}

func random(r *rand.Rand, n int) []byte {
	b := make([]byte, n)
	r.Read(b)
	return b
}

// P4.1
func TestKnownDigests(t *testing.T) {
	for _, c := range []struct{ text, want string }{
		{"", "e3b0c44298fc1c149afbf4c8996fb92427ae41e4649b934ca495991b7852b855"},
		{"a", "ca978112ca1bbdcafac231b39a23dc4da786eff8147c4e72b9807785afee48bb"},
		{"abc", "ba7816bf8f01cfea414140de5dae2223b00361a396177a9cb410ff61f20015ad"},
		{"abcdbcdecdefdefgefghfghighijhijkijkljklmklmnlmnomnopnopq", "248d6a61d20638b8e5c026930c3e6039a33ce45964ff2167f6ecedd419db06c1"},
		{"abcdefghbcdefghicdefghijdefghijkefghijklfghijklmghijklmnhijklmnoijklmnopjklmnopqklmnopqrlmnopqrsmnopqrstnopqrstu", "cf5b16a778af8380036ce59e7b0492370b249b11e8f07a51afac45037afee9d1"},
		{strings.Repeat("a", 1000000), "cdc76e5c9914fb9281a1c7e284d73e67f1809a48a497200e046d39ccc7112cd0"},
	} {
		if got := hex.EncodeToString(sha.Sum([]byte(c.text))); got != c.want {
			t.Errorf("Sum of %d bytes: %s, wanted %s", len(c.text), got, c.want)
		}
	}
}

// P4.1: no bytes, whether nil or not.
func TestNoBytes(t *testing.T) {
	want := sha256.Sum256(nil)
	for _, b := range [][]byte{nil, {}, make([]byte, 0, 64)} {
		if got := sha.Sum(b); !bytes.Equal(got, want[:]) {
			t.Errorf("Sum of no bytes (nil: %t): %x", b == nil, got)
		}
	}
}

// P4.1: each length about the first blocks' ends, by the document's words and by the library's own digest.
func TestEachLength(t *testing.T) {
	r := rand.New(rand.NewSource(4))
	for n := range 64*5 + 2 {
		for kind, b := range [][]byte{random(r, n), make([]byte, n), bytes.Repeat([]byte{255}, n), bytes.Repeat([]byte{128}, n)} {
			got, want := sha.Sum(b), sha256.Sum256(b)
			if !bytes.Equal(got, want[:]) {
				t.Errorf("Sum of %d bytes of kind %d: %x, wanted %x", n, kind, got, want)
			}
			if kind == 0 && !bytes.Equal(got, wantedSum(b)) {
				t.Errorf("Sum of %d bytes: %x, by the words %x", n, got, wantedSum(b))
			}
		}
	}
}

// P4.1: about block ends farther on, where the length's second and third byte are needed.
func TestLongMessages(t *testing.T) {
	r := rand.New(rand.NewSource(41))
	for _, blocks := range []int{31, 32, 33, 128, 1000, 8191, 8192, 32768} {
		b := random(r, 64*blocks+10)
		for _, cut := range []int{-9, -8, -7, -1, 0, 1, 9} {
			part := b[:64*blocks+cut]
			want := sha256.Sum256(part)
			if got := sha.Sum(part); !bytes.Equal(got, want[:]) {
				t.Errorf("Sum of %d bytes: %x, wanted %x", len(part), got, want)
			}
		}
	}
}

// P4.1: 2^29 bytes are the fewest whose bits need a fifth byte of the length.
func TestLengthOfFiveBytes(t *testing.T) {
	b := make([]byte, 1<<29)
	want := sha256.Sum256(b)
	if got := sha.Sum(b); !bytes.Equal(got, want[:]) {
		t.Errorf("Sum of 2^29 bytes: %x, wanted %x", got, want)
	}
}

// P4.1: one bit turned, wherever it stands, is another digest.
func TestEachBitCounts(t *testing.T) {
	b := random(rand.New(rand.NewSource(42)), 130)
	seen := map[string]int{string(sha.Sum(b)): -1}
	for bit := range len(b) * 8 {
		turned := bytes.Clone(b)
		turned[bit/8] ^= 1 << (bit % 8)
		got := sha.Sum(turned)
		want := sha256.Sum256(turned)
		if before, ok := seen[string(got)]; ok {
			t.Errorf("bits %d and %d have one digest", before, bit)
		}
		if !bytes.Equal(got, want[:]) {
			t.Errorf("bit %d turned: %x, wanted %x", bit, got, want)
		}
		seen[string(got)] = bit
	}
}

// R3: no argument is changed, nor what stands behind it; R4: one thing is answered alike each time.
func TestArgumentStays(t *testing.T) {
	whole := random(rand.New(rand.NewSource(43)), 400)
	before := bytes.Clone(whole)
	for n := range 200 {
		first := sha.Sum(whole[:n])
		second := sha.Sum(whole[:n])
		if !bytes.Equal(first, second) {
			t.Errorf("two digests of %d bytes", n)
		}
		if !bytes.Equal(whole, before) {
			t.Fatalf("Sum of %d bytes changed what it was given", n)
		}
	}
}

// R3: an answer is new memory, that no other call's answer shares, and nothing is kept of an argument.
func TestAnswerIsNew(t *testing.T) {
	b := []byte("abc")
	want := sha256.Sum256(b)
	first := sha.Sum(b)
	second := sha.Sum(b)
	if len(first) != 32 {
		t.Fatalf("a digest of %d bytes", len(first))
	}
	for i := range first {
		first[i] = 0
	}
	_ = append(first, 1, 2, 3)
	if !bytes.Equal(second, want[:]) || !bytes.Equal(sha.Sum(b), want[:]) {
		t.Error("a digest that was written over shows in another")
	}
	b[0] = 'x'
	if !bytes.Equal(second, want[:]) {
		t.Error("an argument that was written over shows in the digest")
	}
}

// R4: nothing is kept from call to call, so that calls beside one another do not meet.
func TestCallsBesideOneAnother(t *testing.T) {
	var all sync.WaitGroup
	for n := range 16 {
		all.Go(func() {
			b := bytes.Repeat([]byte{byte(n)}, 50+n)
			want := sha256.Sum256(b)
			for range 50 {
				if !bytes.Equal(sha.Sum(b), want[:]) {
					t.Errorf("another digest of %d bytes", len(b))
				}
			}
		})
	}
	all.Wait()
}

func BenchmarkSum(b *testing.B) {
	data := make([]byte, 1<<20)
	b.SetBytes(int64(len(data)))
	for b.Loop() {
		sha.Sum(data)
	}
}
