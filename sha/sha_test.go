package sha_test

import (
	"bytes"
	"crypto/sha256"
	"encoding/binary"
	"encoding/hex"
	"sync"
	"testing"

	"bartizan/api"
	"bartizan/sha"
)

// filled is n bytes of which no two neighbours are alike.
func filled(n int) []byte {
	b := make([]byte, n)
	for i := range b {
		b[i] = byte(i*7 + i/256)
	}
	return b
}

// isHex holds a sum against what it must be, as hexadecimal digits.
func isHex(t *testing.T, got api.Sum, want string) {
	t.Helper()
	if s := hex.EncodeToString(got[:]); s != want {
		t.Errorf("summed to %s, want %s", s, want)
	}
}

// joined is the text that Join sums, as promise 2.1 says it.
func joined(tag byte, parts ...[]byte) []byte {
	b := []byte{tag}
	for _, p := range parts {
		b = binary.BigEndian.AppendUint32(b, uint32(len(p)))
		b = append(b, p...)
	}
	return b
}

// These sums are the standard's own examples and others that are known.
func Test2_1OfKnownTexts(t *testing.T) {
	for text, want := range map[string]string{
		"":    "e3b0c44298fc1c149afbf4c8996fb92427ae41e4649b934ca495991b7852b855",
		"abc": "ba7816bf8f01cfea414140de5dae2223b00361a396177a9cb410ff61f20015ad",
		"abcdbcdecdefdefgefghfghighijhijkijkljklmklmnlmnomnopnopq":                                                         "248d6a61d20638b8e5c026930c3e6039a33ce45964ff2167f6ecedd419db06c1",
		"abcdefghbcdefghicdefghijdefghijkefghijklfghijklmghijklmnhijklmnoijklmnopjklmnopqklmnopqrlmnopqrsmnopqrstnopqrstu": "cf5b16a778af8380036ce59e7b0492370b249b11e8f07a51afac45037afee9d1",
		"The quick brown fox jumps over the lazy dog":                                                                      "d7a8fbb307d7809469ca9abcb0082e4f8d5651e46d3cdb762d02d0bf37c9e592",
		"\xbd": "68325720aabd7c82f30f554b313d0570c95accbb7dc4b5aae11204c08ffe732b",
	} {
		isHex(t, sha.Of([]byte(text)), want)
	}
	isHex(t, sha.Of(nil), "e3b0c44298fc1c149afbf4c8996fb92427ae41e4649b934ca495991b7852b855")
	isHex(t, sha.Of(bytes.Repeat([]byte("a"), 1000000)), "cdc76e5c9914fb9281a1c7e284d73e67f1809a48a497200e046d39ccc7112cd0")
}

func Test2_1OfEachLength(t *testing.T) {
	b := filled(1000)
	for n := range len(b) + 1 {
		if sha.Of(b[:n]) != sha256.Sum256(b[:n]) {
			t.Errorf("%d bytes are summed otherwise", n)
		}
	}
}

func Test2_1OfEachByte(t *testing.T) {
	for i := range 256 {
		for _, n := range []int{1, 55, 56, 63, 64, 65} {
			b := bytes.Repeat([]byte{byte(i)}, n)
			if sha.Of(b) != sha256.Sum256(b) {
				t.Errorf("%d bytes %d are summed otherwise", n, i)
			}
		}
	}
}

// How many bits there are takes more than four bytes from 2^29 bytes on.
func Test2_1OfLongTexts(t *testing.T) {
	for _, n := range []int{1 << 13, 1<<16 - 1, 1 << 21, 1<<21 + 1} {
		b := filled(n)
		if sha.Of(b) != sha256.Sum256(b) {
			t.Errorf("%d bytes are summed otherwise", n)
		}
	}
	if testing.Short() {
		return
	}
	b := make([]byte, 1<<29+3)
	if sha.Of(b) != sha256.Sum256(b) {
		t.Errorf("%d bytes are summed otherwise", len(b))
	}
}

func Test2_1JoinIsTagLengthsAndParts(t *testing.T) {
	isHex(t, sha.Join('a'), "ca978112ca1bbdcafac231b39a23dc4da786eff8147c4e72b9807785afee48bb")
	isHex(t, sha.Join(0), "6e340b9cffb37a989ca544e6bb780a2c78901d3fb33738768511a30617afa01d")
	for _, parts := range [][][]byte{
		nil,
		{},
		{nil},
		{{}},
		{nil, nil},
		{[]byte("a")},
		{[]byte("abc"), nil, []byte("de")},
		{filled(255), filled(256), filled(257)},
		{filled(64), filled(64), filled(64), filled(64)},
		{filled(1<<16 - 1)},
		{filled(1 << 16), filled(1)},
		{filled(1 << 24), filled(1<<24 + 1)},
	} {
		for _, tag := range []byte{0, 1, 127, 128, 255} {
			if sha.Join(tag, parts...) != sha256.Sum256(joined(tag, parts...)) {
				t.Errorf("%d parts under tag %d are summed otherwise", len(parts), tag)
			}
		}
	}
}

// Parts end at all places of a block, and begin there.
func Test2_1JoinAtEachPlaceOfABlock(t *testing.T) {
	b := filled(200)
	for i := range 140 {
		for _, n := range []int{0, 1, 51, 52, 59, 60, 63, 64, 65, 127, 128, 200} {
			if sha.Join(9, b[:i], b[:n], b[:i]) != sha256.Sum256(joined(9, b[:i], b[:n], b[:i])) {
				t.Errorf("parts of %d, %d and %d bytes are summed otherwise", i, n, i)
			}
		}
	}
}

func Test2_1JoinOfManyParts(t *testing.T) {
	parts := make([][]byte, 5000)
	for i := range parts {
		parts[i] = filled(i % 70)
	}
	if sha.Join(3, parts...) != sha256.Sum256(joined(3, parts...)) {
		t.Error("many parts are summed otherwise")
	}
}

func Test2_1PairIsJoinOfBoth(t *testing.T) {
	a, b := sha.Of([]byte("a")), sha.Of([]byte("b"))
	for _, c := range [][2]api.Sum{{a, b}, {b, a}, {a, a}, {{}, {}}, {a, {}}, {{}, b}} {
		for _, tag := range []byte{0, 2, 255} {
			got := sha.Pair(tag, c[0], c[1])
			if got != sha.Join(tag, c[0][:], c[1][:]) || got != sha256.Sum256(joined(tag, c[0][:], c[1][:])) {
				t.Errorf("a pair under tag %d is summed otherwise", tag)
			}
		}
	}
}

func Test2_1NilAndEmptyAreTheSame(t *testing.T) {
	if sha.Of(nil) != sha.Of([]byte{}) {
		t.Error("nil is summed otherwise than the empty text")
	}
	if sha.Join(1, nil, []byte("a")) != sha.Join(1, []byte{}, []byte("a")) {
		t.Error("nil is summed otherwise than the empty part")
	}
	if sha.Join(1) != sha.Join(1, [][]byte{}...) {
		t.Error("nil is summed otherwise than no parts")
	}
}

func Test2_1WhatIsHandedInIsNotChanged(t *testing.T) {
	room := filled(300)
	b := room[:100:300]
	parts := [][]byte{b, room[100:228], nil}
	sha.Of(b)
	sha.Join(1, parts...)
	if !bytes.Equal(room, filled(300)) {
		t.Error("bytes that were handed in have changed")
	}
	if len(parts) != 3 || &parts[0][0] != &room[0] || &parts[1][0] != &room[100] || parts[2] != nil {
		t.Error("parts that were handed in have changed")
	}
}

// No call hangs on another one, done ahead or at the same time.
func Test2_1NothingIsKept(t *testing.T) {
	want := sha.Of([]byte("abc"))
	sha.Of(filled(63))
	sha.Join(7, filled(65))
	if sha.Of([]byte("abc")) != want {
		t.Error("a sum hangs on what was summed ahead")
	}
	var all sync.WaitGroup
	for i := range 8 {
		all.Go(func() {
			for n := range 200 {
				b := filled(n + i)
				if sha.Join(byte(i), b, b) != sha256.Sum256(joined(byte(i), b, b)) {
					t.Errorf("%d bytes are summed otherwise beside others", n+i)
				}
			}
		})
	}
	all.Wait()
}

// partsOf calls f with every list of up to n parts, each of up to long bytes of the letters 0 and 1.
func partsOf(n, long int, f func(parts ...[]byte)) {
	texts := [][]byte{nil}
	for from := 0; from < len(texts); from++ {
		if len(texts[from]) < long {
			texts = append(texts, append(bytes.Clone(texts[from]), 0), append(bytes.Clone(texts[from]), 1))
		}
	}
	var put func(parts [][]byte)
	put = func(parts [][]byte) {
		f(parts...)
		if len(parts) == n {
			return
		}
		for _, s := range texts {
			put(append(parts[:len(parts):len(parts)], s))
		}
	}
	put(nil)
}

func Test2_2UnlikeTagsAndPartsAreUnlikeSums(t *testing.T) {
	seen := map[api.Sum]int{}
	many := 0
	for _, tag := range []byte{0, 1, 2, 255} {
		partsOf(3, 3, func(parts ...[]byte) {
			seen[sha.Join(tag, parts...)]++
			many++
		})
	}
	if len(seen) != many {
		t.Errorf("of %d unlike tags and parts there are %d sums", many, len(seen))
	}
}

// Parts whose bytes are one text together, or look like how many bytes the next part has, are unlike.
func Test2_2WhereAPartEndsIsSummed(t *testing.T) {
	seen := map[api.Sum]int{}
	text := append([]byte("ab"), 0, 0, 0, 1, 'c')
	many := 0
	add := func(s api.Sum) {
		seen[s]++
		many++
	}
	add(sha.Join(1, text))
	for i := range len(text) + 1 {
		add(sha.Join(1, text[:i], text[i:]))
	}
	add(sha.Join(1, []byte("ab"), []byte("c")))
	add(sha.Join(1))
	add(sha.Join(1, nil))
	add(sha.Join(1, []byte{0, 0, 0, 0}))
	add(sha.Join(1, nil, nil))
	add(sha.Join(0, []byte{1}))
	add(sha.Join(1, []byte{1}))
	if len(seen) != many {
		t.Errorf("of %d unlike lists of parts there are %d sums", many, len(seen))
	}
}

func Test2_2EachTagIsSummed(t *testing.T) {
	seen := map[api.Sum]int{}
	a, b := sha.Of([]byte("a")), sha.Of([]byte("b"))
	for i := range 256 {
		tag := byte(i)
		seen[sha.Join(tag)]++
		seen[sha.Join(tag, nil)]++
		seen[sha.Join(tag, a[:])]++
		seen[sha.Pair(tag, a, b)]++
		seen[sha.Pair(tag, b, a)]++
	}
	if len(seen) != 256*5 {
		t.Errorf("of %d unlike tags and parts there are %d sums", 256*5, len(seen))
	}
}

// A part of 2^8, 2^16 or 2^24 bytes has its number of bytes in the four all the same.
func Test2_2HowManyBytesIsSummedWhole(t *testing.T) {
	for _, n := range []int{1 << 8, 1 << 16, 1 << 24} {
		b := make([]byte, n)
		if sha.Join(1, b, nil) == sha.Join(1, nil, b) {
			t.Errorf("a part of %d bytes is summed as one of none", n)
		}
	}
}
