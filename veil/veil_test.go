package veil_test

import (
	"bytes"
	"crypto/sha256"
	"encoding/hex"
	"slices"
	"sync"
	"testing"

	"bartizan/api"
	"bartizan/veil"
)

// How many bytes a text, and what is covered, have at most, written out.
const (
	topText  = 65536
	topClose = 65552
)

// joined is Join, by the library's SHA-256.
func joined(tag byte, parts ...[]byte) api.Sum {
	text := []byte{tag}
	for _, p := range parts {
		n := len(p)
		text = append(text, byte(n>>24), byte(n>>16), byte(n>>8), byte(n))
		text = append(text, p...)
	}
	return sha256.Sum256(text)
}

// covered is a text's cover, and a cover's text, byte by byte.
func covered(key api.Sum, text []byte) []byte {
	var b []byte
	var s api.Sum
	for i, x := range text {
		if i%32 == 0 {
			n := i / 32
			s = joined(51, key[:], []byte{byte(n / 65536), byte(n / 256), byte(n)})
		}
		b = append(b, x^s[i%32])
	}
	return b
}

// marked are a mark, and what stands behind it.
func marked(mark api.Sum, behind []byte) []byte {
	return append(slices.Clone(mark[:16]), behind...)
}

// closed is what a text is covered to.
func closed(key api.Sum, text []byte) []byte {
	return marked(joined(52, key[:], text), covered(key, text))
}

// keys are unlike keys, with the least and the greatest one.
func keys() []api.Sum {
	var full, rising api.Sum
	for i := range full {
		full[i] = 0xff
		rising[i] = byte(i)
	}
	return []api.Sum{{}, {1}, {31: 1}, full, rising, joined(99)}
}

// noise is n bytes of which no two neighbours are alike.
func noise(n int) []byte {
	b := make([]byte, n)
	for i := range b {
		b[i] = byte(i*7 + i/256)
	}
	return b
}

// long are lengths of long texts: around those where the number of 32 bytes takes a further byte, and where a text is too long.
func long() []int {
	return []int{1000, 4096, 8159, 8160, 8161, 8191, 8192, 8193, 16384, 16385, 65504, 65505, topText - 1, topText}
}

// texts are unlike texts of many lengths.
func texts() [][]byte {
	l := [][]byte{nil, {0}, {1}, {0, 0}, []byte("a text"), make([]byte, 100)}
	for n := range 140 {
		l = append(l, noise(n + 3)[3:])
	}
	for _, n := range long() {
		l = append(l, noise(n))
	}
	return l
}

// isClosed holds what Close answers against what it must be.
func isClosed(t *testing.T, key api.Sum, text, want []byte) {
	t.Helper()
	got, e := veil.Close(key, text)
	if e != api.OK || !bytes.Equal(got, want) {
		t.Errorf("%d bytes under %x are covered to %d other ones, %v", len(text), key[:4], len(got), e)
	}
}

// isOpened holds what Open answers against the text that it must be.
func isOpened(t *testing.T, key api.Sum, b, want []byte) {
	t.Helper()
	got, e := veil.Open(key, b)
	if e != api.OK || !bytes.Equal(got, want) {
		t.Errorf("%d bytes under %x are opened to %d other ones, %v", len(b), key[:4], len(got), e)
	}
}

// isRefused holds what Open answers against an error.
func isRefused(t *testing.T, key api.Sum, b []byte, want api.Errno) {
	t.Helper()
	got, e := veil.Open(key, b)
	if e != want || len(got) != 0 {
		t.Errorf("%d bytes under %x are opened to %d, %v, want %v", len(b), key[:4], len(got), e, want)
	}
}

// known calls f with texts that were covered in another language.
func known(f func(key api.Sum, text, closed []byte)) {
	l := keys()
	for _, c := range []struct {
		key          api.Sum
		text, closed string
	}{
		{l[0], "", "1a65892d8879707dec805afdfd1a88be"},
		{l[4], "", "64f2db8b3758cbd73b99cccf575a87a7"},
		{l[0], "abc", "008d574589abbf8ee3aa27c42568d88ced16e9"},
		{l[4], "The quick brown fox jumps over the lazy dog", "fe396b4b0f9d24822bfa9e295f3276371bd8f265e77b1ba269c2ef3e155abf1c23440ee53e64f0dd98b56d6801bdef8df2fbdd55eba850a96b90b8"},
	} {
		b, _ := hex.DecodeString(c.closed)
		f(c.key, []byte(c.text), b)
	}
}

func Test11_1MarkIs16(t *testing.T) {
	if veil.Mark != 16 {
		t.Errorf("Mark is %d", veil.Mark)
	}
}

func Test11_1KnownTexts(t *testing.T) {
	known(func(key api.Sum, text, closed []byte) {
		isClosed(t, key, text, closed)
		isOpened(t, key, closed, text)
	})
	b, _ := veil.Close(keys()[4], noise(topText))
	s := sha256.Sum256(b)
	if got := hex.EncodeToString(s[:]); got != "4f6efdd7aa85e22285c05ca876bf9854017d2aace48e2e0ed26089e086b98e0d" {
		t.Errorf("%d bytes that are covered are summed to %s", topText, got)
	}
}

func Test11_1CloseOfAnEmptyTextHas16Bytes(t *testing.T) {
	for _, key := range keys() {
		for _, text := range [][]byte{nil, {}} {
			b, e := veil.Close(key, text)
			if e != api.OK || len(b) != 16 {
				t.Errorf("an empty text has %d bytes, %v", len(b), e)
			}
			isClosed(t, key, text, marked(joined(52, key[:], nil), nil))
		}
	}
}

func Test11_1CloseIsMarkAndCover(t *testing.T) {
	for _, key := range keys() {
		for _, text := range texts() {
			isClosed(t, key, text, closed(key, text))
		}
	}
}

// Bytes 0 are covered to the key's bytes themselves: each 32 of them other ones.
func Test11_1EachOf32BytesHasItsNumber(t *testing.T) {
	for _, key := range keys() {
		b, e := veil.Close(key, make([]byte, topText))
		if e != api.OK || len(b) != topClose {
			t.Fatalf("%d bytes are covered to %d, %v", topText, len(b), e)
		}
		seen := map[api.Sum]int{}
		for n := range topText / 32 {
			s := api.Sum(b[16+32*n : 48+32*n])
			if s != joined(51, key[:], []byte{0, byte(n >> 8), byte(n)}) {
				t.Errorf("the 32 bytes %d under %x are others", n, key[:4])
			}
			seen[s]++
		}
		if len(seen) != topText/32 {
			t.Errorf("%d of 32 bytes are unlike", len(seen))
		}
	}
}

func Test11_1CloseOfTooLongTexts(t *testing.T) {
	for _, key := range keys() {
		for _, n := range []int{topText + 1, topText + 2, topText + 16, topText + 32, 2 * topText, 1 << 20} {
			b, e := veil.Close(key, make([]byte, n))
			if e != api.ErrLong || len(b) != 0 {
				t.Errorf("%d bytes are covered to %d, %v", n, len(b), e)
			}
		}
		isClosed(t, key, make([]byte, topText), closed(key, make([]byte, topText)))
	}
}

func Test11_1OpenOfTooFewBytes(t *testing.T) {
	for _, key := range keys() {
		isRefused(t, key, nil, api.ErrShort)
		whole := closed(key, nil)
		for n := range 16 {
			isRefused(t, key, whole[:n], api.ErrShort)
			isRefused(t, key, make([]byte, n), api.ErrShort)
		}
		isOpened(t, key, whole, nil)
	}
}

// Too many bytes are so whether they have the mark of their text or not.
func Test11_1OpenOfTooManyBytes(t *testing.T) {
	for _, key := range keys() {
		for _, n := range []int{topText + 1, topText + 2, topText + 16, topText + 32, 2 * topText} {
			isRefused(t, key, closed(key, make([]byte, n)), api.ErrLong)
			isRefused(t, key, make([]byte, n+16), api.ErrLong)
		}
		isOpened(t, key, closed(key, noise(topText)), noise(topText))
		isRefused(t, key, make([]byte, topClose), api.ErrForm)
	}
}

func Test11_1OpenIsTheTextBehindTheMark(t *testing.T) {
	for _, key := range keys() {
		for _, text := range texts() {
			isOpened(t, key, closed(key, text), text)
		}
	}
}

func Test11_1EachBitOfTheMarkCounts(t *testing.T) {
	for _, key := range keys() {
		for _, text := range [][]byte{nil, []byte("a text"), noise(100)} {
			b := closed(key, text)
			for i := range 128 {
				b[i/8] ^= 1 << (i % 8)
				isRefused(t, key, b, api.ErrForm)
				b[i/8] ^= 1 << (i % 8)
			}
			isOpened(t, key, b, text)
		}
	}
}

func Test11_1EachBitOfTheCoverCounts(t *testing.T) {
	key, text := keys()[4], noise(100)
	b := closed(key, text)
	for i := 16 * 8; i < len(b)*8; i++ {
		b[i/8] ^= 1 << (i % 8)
		isRefused(t, key, b, api.ErrForm)
		b[i/8] ^= 1 << (i % 8)
	}
	isOpened(t, key, b, text)
}

func Test11_1EachBitOfALongCoverCounts(t *testing.T) {
	key, text := keys()[5], noise(topText)
	b := closed(key, text)
	for _, i := range []int{16, 48, 16 + 8191, 16 + 8192, topClose - 1} {
		b[i] ^= 0x80
		isRefused(t, key, b, api.ErrForm)
		b[i] ^= 0x80
	}
	isOpened(t, key, b, text)
}

func Test11_1EachCutHasAnotherMark(t *testing.T) {
	for _, key := range keys() {
		b := closed(key, noise(100))
		for n := 16; n < len(b); n++ {
			isRefused(t, key, b[:n], api.ErrForm)
		}
		for n := range 40 {
			isRefused(t, key, append(slices.Clone(b), make([]byte, n+1)...), api.ErrForm)
			isRefused(t, key, b[n+1:], api.ErrForm)
		}
	}
}

// Marks that look like the text's, but are of something else.
func Test11_1OtherMarks(t *testing.T) {
	for _, key := range keys() {
		text := noise(50)
		cover := covered(key, text)
		right := joined(52, key[:], text)
		for i, mark := range []api.Sum{
			joined(51, key[:], text),
			joined(53, key[:], text),
			joined(52, key[:], cover),
			joined(52, text, key[:]),
			joined(52, text),
			joined(52, key[:]),
			joined(52, append(slices.Clone(key[:]), text...)),
			joined(52, key[:], text, nil),
			joined(52, key[:], text[:49]),
			api.Sum(append(slices.Clone(right[16:]), right[:16]...)),
			{},
		} {
			if mark == right {
				t.Fatalf("mark %d is right", i)
			}
			isRefused(t, key, marked(mark, cover), api.ErrForm)
		}
		isRefused(t, key, append(slices.Clone(right[:]), cover...), api.ErrForm)
		isRefused(t, key, append(slices.Clone(cover), right[:16]...), api.ErrForm)
		isOpened(t, key, marked(right, cover), text)
	}
}

// A text's mark ahead of what is no cover of it under this key.
func Test11_1OtherCovers(t *testing.T) {
	l := keys()
	text := noise(70)
	for i, key := range l {
		right := joined(52, key[:], text)
		isRefused(t, key, marked(right, text), api.ErrForm)
		other := covered(key, text)
		slices.Reverse(other)
		isRefused(t, key, marked(right, other), api.ErrForm)
		cover := covered(key, text)
		isRefused(t, key, marked(right, slices.Concat(cover[32:64], cover[:32], cover[64:])), api.ErrForm)
		for j, second := range l {
			if i != j {
				isRefused(t, key, marked(right, covered(second, text)), api.ErrForm)
			}
		}
	}
}

func Test11_1OpenOfBytesThatNoCallMade(t *testing.T) {
	for _, key := range keys() {
		for n := 16; n < 200; n++ {
			isRefused(t, key, noise(n), api.ErrForm)
			isRefused(t, key, make([]byte, n), api.ErrForm)
			isRefused(t, key, bytes.Repeat([]byte{0xff}, n), api.ErrForm)
		}
	}
}

func Test11_1NilAndEmptyAreTheSame(t *testing.T) {
	for _, key := range keys() {
		first, e := veil.Close(key, nil)
		second, f := veil.Close(key, []byte{})
		if e != api.OK || f != api.OK || !bytes.Equal(first, second) {
			t.Error("nil is covered otherwise than the empty text")
		}
		isRefused(t, key, nil, api.ErrShort)
		isRefused(t, key, []byte{}, api.ErrShort)
	}
}

func Test11_1WhatIsHandedInIsNotChanged(t *testing.T) {
	key := keys()[4]
	for _, n := range []int{0, 1, 16, 31, 32, 33, 64, 100} {
		room := noise(300)
		veil.Close(key, room[:n:200])
		veil.Open(key, room[:n:200])
		if !bytes.Equal(room, noise(300)) {
			t.Errorf("%d bytes that were handed in have changed", n)
		}
		b := append(closed(key, noise(n)), noise(50)...)
		want := slices.Clone(b)
		isOpened(t, key, b[:16+n], noise(n))
		if !bytes.Equal(b, want) {
			t.Errorf("%d bytes that were opened have changed", n)
		}
	}
}

func Test11_1AnswersAreNewMemory(t *testing.T) {
	key := keys()[4]
	for _, n := range []int{0, 1, 16, 32, 100} {
		text := noise(n)
		want := closed(key, text)
		first, _ := veil.Close(key, text)
		second, _ := veil.Close(key, text)
		clear(text)
		if !bytes.Equal(first, want) {
			t.Error("a text that was handed in was kept")
		}
		opened, _ := veil.Open(key, first)
		again, _ := veil.Open(key, first)
		clear(first)
		_ = append(first, 1, 2, 3)
		if !bytes.Equal(second, want) || !bytes.Equal(opened, noise(n)) {
			t.Error("an answer shares memory with another one")
		}
		clear(opened)
		_ = append(opened, 1, 2, 3)
		if !bytes.Equal(again, noise(n)) || !bytes.Equal(second, want) {
			t.Error("a text that was opened shares memory")
		}
	}
}

// No call hangs on another one, done ahead or at the same time.
func Test11_1NothingIsKept(t *testing.T) {
	l := keys()
	var all sync.WaitGroup
	for i := range 8 {
		all.Go(func() {
			key := l[i%len(l)]
			for n := range 100 {
				text := noise(n + i)
				isClosed(t, key, text, closed(key, text))
				isRefused(t, l[(i+1)%len(l)], closed(key, text), api.ErrForm)
				isOpened(t, key, closed(key, text), text)
			}
		})
	}
	all.Wait()
}

func Test11_2WhatIsCoveredIsOpened(t *testing.T) {
	for _, key := range keys() {
		for _, text := range texts() {
			b, e := veil.Close(key, text)
			if e != api.OK {
				t.Fatalf("%d bytes are not covered: %v", len(text), e)
			}
			isOpened(t, key, b, text)
		}
	}
}

func Test11_2EachByteIsOpened(t *testing.T) {
	key := keys()[5]
	for i := range 256 {
		text := bytes.Repeat([]byte{byte(i)}, 40)
		b, _ := veil.Close(key, text)
		isOpened(t, key, b, text)
	}
}

func Test11_2WhatIsCoveredTwiceIsOpenedTwice(t *testing.T) {
	l := keys()
	text := noise(100)
	for _, first := range l {
		for _, second := range l {
			inner, _ := veil.Close(first, text)
			outer, _ := veil.Close(second, inner)
			isOpened(t, second, outer, inner)
			isOpened(t, first, inner, text)
		}
	}
}

func Test11_2OtherKeysOpenNothing(t *testing.T) {
	key := keys()[4]
	for _, text := range [][]byte{nil, {0}, []byte("a text"), noise(100)} {
		b, _ := veil.Close(key, text)
		for i := range 256 {
			other := key
			other[i/8] ^= 1 << (i % 8)
			isRefused(t, other, b, api.ErrForm)
		}
		isOpened(t, key, b, text)
	}
}

func Test11_2UnlikeKeysCoverToUnlikeBytes(t *testing.T) {
	seen := map[string]int{}
	many := 0
	for _, key := range keys() {
		for _, text := range texts()[:60] {
			b, _ := veil.Close(key, text)
			seen[string(b)]++
			many++
		}
	}
	same := len(keys()) // texts tells the empty text twice
	if len(seen) != many-same {
		t.Errorf("%d texts under unlike keys are covered to %d", many, len(seen))
	}
}
