package lamport_test

import (
	"bytes"
	"crypto/sha256"
	"fmt"
	"math"
	"slices"
	"strings"
	"testing"

	"bartizan/api"
	"bartizan/lamport"
)

// joined is Join, by the library's SHA-256.
func joined(tag byte, parts ...[]byte) api.Sum {
	text := []byte{tag}
	for _, p := range parts {
		n := len(p)
		text = append(text, byte(n>>24), byte(n>>16), byte(n>>8), byte(n))
		text = append(text, p...)
	}
	return sha256.Sum256(text)
}

// secret is a secret of a key: of a place that there is, and 0 or 1.
func secret(seed api.Sum, at, bit byte) api.Sum {
	return joined(11, seed[:], []byte{at, bit})
}

func shown(s api.Sum) api.Sum {
	return joined(12, s[:])
}

// bits are a text's 64 bits, as a row of 0 and 1.
func bits(text []byte) string {
	digest := joined(14, text)
	var b strings.Builder
	for _, x := range digest[:8] {
		fmt.Fprintf(&b, "%08b", x)
	}
	return b.String()
}

// key is the sum of the key of a seed.
func key(seed api.Sum) api.Sum {
	var all []byte
	for at := byte(0); at < 64; at++ {
		none, one := shown(secret(seed, at, 0)), shown(secret(seed, at, 1))
		all = append(append(all, none[:]...), one[:]...)
	}
	return joined(13, all)
}

// signed is the signature of what has these bits.
func signed(seed api.Sum, bits string) []byte {
	var sig []byte
	for at, c := range bits {
		bit := byte(c - '0')
		first, second := secret(seed, byte(at), bit), shown(secret(seed, byte(at), 1-bit))
		sig = append(append(sig, first[:]...), second[:]...)
	}
	return sig
}

// back is the key's sum that comes of a signature of what has these bits.
func back(bits string, sig []byte) api.Sum {
	var all []byte
	for at, c := range bits {
		first, second := sig[64*at:64*at+32], sig[64*at+32:64*at+64]
		told := shown(api.Sum(first))
		if c == '0' {
			all = append(append(all, told[:]...), second...)
		} else {
			all = append(append(all, second...), told[:]...)
		}
	}
	return joined(13, all)
}

// seeds are unlike seeds, with the least and the greatest one.
func seeds() []api.Sum {
	var full api.Sum
	for i := range full {
		full[i] = 0xff
	}
	return []api.Sum{{}, {1}, {31: 1}, full, joined(99)}
}

// texts are unlike texts, of many lengths.
func texts() [][]byte {
	l := [][]byte{nil, {0}, {1}, {0, 0}, []byte("a text"), []byte("a texu")}
	for _, n := range []int{31, 32, 33, 63, 64, 65, 1000, 4096, 70000} {
		l = append(l, bytes.Repeat([]byte{7}, n))
	}
	return l
}

// noise is n bytes that no call made.
func noise(n int) []byte {
	b := make([]byte, n)
	for i := range b {
		b[i] = byte(i*i>>3 + 5*i)
	}
	return b
}

func Test4_1BitsAndSize(t *testing.T) {
	if lamport.Bits != 64 || lamport.Size != 4096 {
		t.Errorf("Bits is %d, Size %d", lamport.Bits, lamport.Size)
	}
}

func Test4_1Secret(t *testing.T) {
	seen := map[api.Sum]bool{}
	for _, seed := range seeds() {
		for at := range 256 {
			for bit := range 2 {
				got := lamport.Secret(seed, at, bit)
				if want := secret(seed, byte(at), byte(bit)); got != want {
					t.Errorf("secret %d of place %d is %x, want %x", bit, at, got, want)
				}
				seen[got] = true
			}
		}
	}
	if want := len(seeds()) * 256 * 2; len(seen) != want {
		t.Errorf("%d secrets, want %d", len(seen), want)
	}
}

func Test4_1SecretTakesTheLowestBits(t *testing.T) {
	seed := seeds()[4]
	places := map[int]byte{
		256: 0, 257: 1, 511: 255, 1<<32 + 3: 3, 0x1234: 0x34, math.MaxInt: 255,
		-1: 255, -2: 254, -256: 0, -257: 255, math.MinInt: 0, math.MinInt + 9: 9,
	}
	for at, low := range places {
		if lamport.Secret(seed, at, 1) != secret(seed, low, 1) {
			t.Errorf("of place %d the lowest eight bits are not %d", at, low)
		}
	}
	ones := map[int]byte{
		2: 0, 3: 1, 254: 0, 256: 0, 257: 1, 1 << 40: 0, math.MaxInt: 1,
		-1: 1, -2: 0, -3: 1, -256: 0, math.MinInt: 0, math.MinInt + 1: 1,
	}
	for bit, low := range ones {
		if lamport.Secret(seed, 5, bit) != secret(seed, 5, low) {
			t.Errorf("of bit %d the lowest one is not %d", bit, low)
		}
	}
}

func Test4_1Shown(t *testing.T) {
	for _, s := range append(seeds(), secret(api.Sum{}, 0, 0)) {
		if got := lamport.Shown(s); got != shown(s) {
			t.Errorf("of %x is shown %x, want %x", s, got, shown(s))
		}
	}
}

func Test4_1Public(t *testing.T) {
	for _, seed := range seeds() {
		if got := lamport.Public(seed); got != key(seed) {
			t.Errorf("the sum of the key of %x is %x, want %x", seed, got, key(seed))
		}
	}
}

func Test4_1Digest(t *testing.T) {
	for _, text := range texts() {
		if got := lamport.Digest(text); got != joined(14, text) {
			t.Errorf("the digest of %d bytes is %x, want %x", len(text), got, joined(14, text))
		}
	}
	if lamport.Digest(nil) != lamport.Digest([]byte{}) {
		t.Error("nil has another digest than the empty text")
	}
}

func Test4_1Sign(t *testing.T) {
	for _, seed := range seeds() {
		for _, text := range texts() {
			if got := lamport.Sign(seed, text); !bytes.Equal(got, signed(seed, bits(text))) {
				t.Errorf("the signature of %d bytes by %x is %x", len(text), seed, got)
			}
		}
	}
}

// Each place is signed for 0 by one text, and for 1 by another one.
func Test4_1SignAtEachPlace(t *testing.T) {
	var seen [64][2]bool
	seed := seeds()[1]
	for i := range 40 {
		text := []byte{byte(i)}
		sig := lamport.Sign(seed, text)
		for at, c := range bits(text) {
			bit := byte(c - '0')
			seen[at][bit] = true
			first, second := api.Sum(sig[64*at:64*at+32]), api.Sum(sig[64*at+32:64*at+64])
			if first != secret(seed, byte(at), bit) || second != shown(secret(seed, byte(at), 1-bit)) {
				t.Errorf("place %d of text %d is not signed for %d", at, i, bit)
			}
		}
	}
	for at, s := range seen {
		if !s[0] || !s[1] {
			t.Errorf("place %d is not signed for both bits", at)
		}
	}
}

func Test4_1SignHas4096Bytes(t *testing.T) {
	for _, text := range [][]byte{nil, {}, []byte("hi"), noise(4096)} {
		if n := len(lamport.Sign(api.Sum{}, text)); n != 4096 {
			t.Errorf("a signature has %d bytes", n)
		}
	}
}

func Test4_1WhatIsHandedInIsNotChangedOrKept(t *testing.T) {
	seed := seeds()[4]
	room := noise(100)
	text := room[:50:90]
	want := signed(seed, bits(text))
	lamport.Digest(text)
	sig := lamport.Sign(seed, text)
	if !bytes.Equal(room, noise(100)) {
		t.Error("a text has changed")
	}
	clear(room)
	if !bytes.Equal(sig, want) {
		t.Error("a signature hangs on a text that was handed in")
	}
	clear(sig)
	if !bytes.Equal(lamport.Sign(seed, noise(100)[:50]), want) {
		t.Error("an answer shares memory")
	}
}

func Test4_2Back(t *testing.T) {
	for _, text := range texts() {
		for _, sig := range [][]byte{noise(4096), make([]byte, 4096), signed(seeds()[2], bits(text))} {
			got, e := lamport.Back(text, sig)
			if want := back(bits(text), sig); e != api.OK || got != want {
				t.Errorf("of a signature of %d bytes comes %x, %v, want %x", len(text), got, e, want)
			}
		}
	}
}

func Test4_2OtherLengths(t *testing.T) {
	long := append(lamport.Sign(api.Sum{}, nil), noise(10000)...)
	for _, n := range []int{0, 1, 31, 32, 64, 2048, 4032, 4064, 4095, 4097, 4128, 4160, 8192, len(long)} {
		for _, text := range [][]byte{nil, []byte("hi")} {
			s, e := lamport.Back(text, long[:n])
			if s != (api.Sum{}) || e != api.ErrSign {
				t.Errorf("of %d bytes comes %x, %v", n, s, e)
			}
			for _, k := range []api.Sum{{}, key(api.Sum{}), joined(13)} {
				if lamport.Verify(k, text, long[:n]) {
					t.Errorf("%d bytes are verified", n)
				}
			}
		}
	}
	if s, e := lamport.Back(nil, nil); s != (api.Sum{}) || e != api.ErrSign {
		t.Errorf("of nil comes %x, %v", s, e)
	}
	if lamport.Verify(api.Sum{}, nil, nil) {
		t.Error("nil is verified")
	}
}

// Whatever has 4096 bytes is the signature of some key's sum, and of no other one.
func Test4_2Verify(t *testing.T) {
	for _, text := range texts() {
		sig := noise(4096)
		k := back(bits(text), sig)
		if !lamport.Verify(k, text, sig) {
			t.Errorf("%x is not verified", k)
		}
		for i := range 256 {
			other := k
			other[i/8] ^= 1 << (i % 8)
			if lamport.Verify(other, text, sig) {
				t.Errorf("%x is verified, but %x comes", other, k)
			}
		}
		if lamport.Verify(api.Sum{}, text, sig) {
			t.Error("zero is verified")
		}
	}
}

func Test4_2EachByteOfASignatureCounts(t *testing.T) {
	seed, text := seeds()[3], []byte("a text")
	sig := signed(seed, bits(text))
	for i := range sig {
		sig[i] ^= 1
		if lamport.Verify(key(seed), text, sig) {
			t.Errorf("byte %d does not count", i)
		}
		sig[i] ^= 1
	}
	for at := range 64 {
		other := slices.Clone(sig)
		copy(other[64*at:], sig[64*at+32:64*at+64])
		copy(other[64*at+32:], sig[64*at:64*at+32])
		if lamport.Verify(key(seed), text, other) {
			t.Errorf("the halves of place %d may be exchanged", at)
		}
	}
	if !lamport.Verify(key(seed), text, sig) {
		t.Error("the signature itself is not verified")
	}
}

func Test4_2WhatIsHandedInIsNotChanged(t *testing.T) {
	room, text := noise(5000), noise(60)
	sig := room[:4096:4500]
	k, _ := lamport.Back(text[:30:50], sig)
	if !lamport.Verify(k, text[:30:50], sig) {
		t.Error("what comes of a signature is not verified")
	}
	if !bytes.Equal(room, noise(5000)) || !bytes.Equal(text, noise(60)) {
		t.Error("a text or a signature has changed")
	}
}

func Test4_3WhatIsSignedIsVerified(t *testing.T) {
	for _, seed := range seeds() {
		k := lamport.Public(seed)
		for _, text := range texts() {
			sig := lamport.Sign(seed, text)
			if s, e := lamport.Back(text, sig); s != k || e != api.OK {
				t.Errorf("of a signature of %d bytes comes %x, %v, want %x", len(text), s, e, k)
			}
			if !lamport.Verify(k, text, sig) {
				t.Errorf("a signature of %d bytes is not verified", len(text))
			}
		}
	}
}

func Test4_3OtherTexts(t *testing.T) {
	seed := seeds()[4]
	k := lamport.Public(seed)
	l := texts()
	for i, text := range l {
		sig := lamport.Sign(seed, text)
		for j, other := range l {
			s, e := lamport.Back(other, sig)
			if e != api.OK || (s == k) != (i == j) {
				t.Errorf("of a signature of text %d comes with text %d %x, %v", i, j, s, e)
			}
			if lamport.Verify(k, other, sig) != (i == j) {
				t.Errorf("a signature of text %d is verified of text %d: %v", i, j, i != j)
			}
		}
	}
}

// What has other bits at one place alone is not verified, whichever place that is.
func Test4_3OneOtherBit(t *testing.T) {
	seed, text := seeds()[1], []byte("a text")
	k := lamport.Public(seed)
	for at := range 64 {
		row := []byte(bits(text))
		row[at] ^= 1
		s, e := lamport.Back(text, signed(seed, string(row)))
		if s == k || e != api.OK {
			t.Errorf("place %d does not count", at)
		}
	}
}

func Test4_3OtherKeys(t *testing.T) {
	l := seeds()
	for i, seed := range l {
		sig := lamport.Sign(seed, []byte("a text"))
		for j, other := range l {
			if lamport.Verify(lamport.Public(other), []byte("a text"), sig) != (i == j) {
				t.Errorf("a signature by key %d is verified under key %d: %v", i, j, i != j)
			}
		}
	}
}
