package receipt_test

import (
	"bytes"
	"slices"
	"sync"
	"testing"

	"bartizan/api"
	"bartizan/receipt"
)

// topText is how many bytes a text has at most, written out.
const topText = 65536

// asText is a text's bytes.
func asText(b []byte) []byte {
	return append(num(len(b)), b...)
}

// putOf are the bytes of a signed receipt.
func putOf(r api.Receipt, sig []byte) []byte {
	return append(asText(textOf(r)), asText(sig)...)
}

// signatures are signatures' bytes, whatever they are.
func signatures() [][]byte {
	return [][]byte{nil, {0}, {0xff}, noise(67), noise(127), noise(128), noise(3000), noise(topText - 1), noise(topText)}
}

// isGot holds what Get answers against the one that it must be.
func isGot(t *testing.T, b []byte, r api.Receipt, sig []byte) {
	t.Helper()
	got, e := receipt.Get(b)
	if e != api.OK || got.Receipt != r || !bytes.Equal(got.Sig, sig) {
		t.Errorf("%d bytes are read as %+v, with %d bytes of signature, %v", len(b), got.Receipt, len(got.Sig), e)
	}
}

// isRefused holds what Get answers against an error.
func isRefused(t *testing.T, b []byte, want api.Errno) {
	t.Helper()
	got, e := receipt.Get(b)
	if e != want || got.Receipt != (api.Receipt{}) || len(got.Sig) != 0 {
		t.Errorf("%d bytes, begun with %x, are read as %+v, %v, want %v", len(b), b[:min(8, len(b))], got.Receipt, e, want)
	}
}

func Test12_3PutIsBothTexts(t *testing.T) {
	for _, r := range receipts() {
		for _, sig := range signatures()[:6] {
			if got := (receipt.Signed{Receipt: r, Sig: sig}).Put(); !bytes.Equal(got, putOf(r, sig)) {
				t.Errorf("the bytes of %+v, with %d bytes of signature, are %d others", r, len(sig), len(got))
			}
		}
	}
	for _, n := range []int{topText, topText + 1, 100000} {
		if got := (receipt.Signed{Sig: noise(n)}).Put(); !bytes.Equal(got, putOf(api.Receipt{}, noise(n))) {
			t.Errorf("with %d bytes of signature, the bytes are %d others", n, len(got))
		}
	}
	if got := (receipt.Signed{}).Put(); !bytes.Equal(got, append(append([]byte{67}, make([]byte, 67)...), 0)) {
		t.Errorf("the bytes of nothing are %x", got)
	}
}

// What may not be is written as its text writes it.
func Test12_3PutOfWhatMayNotBe(t *testing.T) {
	for _, r := range wrongReceipts() {
		want := append(asText(receipt.Text(r)), asText(noise(5))...)
		if got := (receipt.Signed{Receipt: r, Sig: noise(5)}).Put(); !bytes.Equal(got, want) {
			t.Errorf("the bytes of %+v are %x", r, got)
		}
	}
}

func Test12_3GetIsTheOneWhoseBytesTheyAre(t *testing.T) {
	for i, r := range receipts() {
		sig := signatures()[i%9]
		isGot(t, putOf(r, sig), r, sig)
	}
}

func Test12_3GetOfEachCut(t *testing.T) {
	for _, r := range receipts()[:20] {
		b := putOf(r, noise(200))
		for n := range b {
			isRefused(t, b[:n], api.ErrShort)
		}
	}
	isRefused(t, nil, api.ErrShort)
}

func Test12_3GetOfTooMuch(t *testing.T) {
	for _, r := range receipts()[:20] {
		for _, more := range [][]byte{{0}, {1, 7}, noise(300)} {
			isRefused(t, append(putOf(r, noise(9)), more...), api.ErrLong)
		}
	}
}

func Test12_3GetOfTooLongTexts(t *testing.T) {
	r := receipts()[3]
	for _, n := range []int{topText + 1, topText + 2, 2 * topText, 1 << 32} {
		isRefused(t, append(num(n), noise(100)...), api.ErrRange)
		isRefused(t, slices.Concat(asText(textOf(r)), num(n), noise(100)), api.ErrRange)
	}
	isRefused(t, append(asText(noise(topText+1)), 0), api.ErrRange)
	isRefused(t, append(asText(textOf(r)), asText(noise(topText+1))...), api.ErrRange)
	isGot(t, putOf(r, noise(topText)), r, noise(topText))
	isRefused(t, append(asText(append(textOf(r), make([]byte, topText-len(textOf(r)))...)), 0), api.ErrLong)
}

func Test12_3GetOfOtherForms(t *testing.T) {
	r := receipts()[3]
	text := textOf(r)
	long := append([]byte{byte(len(text)) + 0x80, 0}, text...)
	isRefused(t, append(long, 0), api.ErrForm)
	isRefused(t, append(asText(text), 0x80, 0), api.ErrForm)
	isRefused(t, append(asText(text), 0x81, 0, 5), api.ErrForm)
	isRefused(t, bytes.Repeat([]byte{0xff}, 9), api.ErrRange)
}

// Read's error of the first text stands behind those of both texts, and of what is left.
func Test12_3GetAnswersTheFirstError(t *testing.T) {
	r := receipts()[3]
	for _, c := range []struct {
		text []byte
		want api.Errno
	}{
		{nil, api.ErrShort},
		{textOf(r)[:66], api.ErrShort},
		{append(textOf(r), 0), api.ErrLong},
		{append(front(16, 1, 1), noise(64)...), api.ErrRange},
		{append(front(1, topState+1, 1), noise(64)...), api.ErrRange},
		{append(front(1, 1, topState+1), noise(64)...), api.ErrRange},
		{append([]byte{0x80, 0, 1, 1}, noise(64)...), api.ErrForm},
	} {
		b := asText(c.text)
		isRefused(t, append(b, asText(noise(20))...), c.want)
		isRefused(t, b, api.ErrShort)
		isRefused(t, append(slices.Clone(b), 5, 1), api.ErrShort)
		isRefused(t, append(slices.Clone(b), 0x80, 0), api.ErrForm)
		isRefused(t, slices.Concat(b, num(topText+1), noise(8)), api.ErrRange)
		isRefused(t, slices.Concat(b, asText(noise(20)), []byte{0}), api.ErrLong)
	}
}

func Test12_3NilAndEmptyAreTheSame(t *testing.T) {
	r := receipts()[7]
	first := receipt.Signed{Receipt: r}.Put()
	second := receipt.Signed{Receipt: r, Sig: []byte{}}.Put()
	if !bytes.Equal(first, second) {
		t.Error("no signature is written otherwise than an empty one")
	}
	isGot(t, first, r, nil)
	isRefused(t, []byte{}, api.ErrShort)
}

func Test12_3AnswersAreNewMemory(t *testing.T) {
	r, sig := receipts()[7], noise(80)
	s := receipt.Signed{Receipt: r, Sig: sig}
	first, second := s.Put(), s.Put()
	room := append(slices.Clone(first), noise(40)...)
	want := slices.Clone(room)
	got, _ := receipt.Get(room[:len(first)])
	again, _ := receipt.Get(room[:len(first)])
	if !bytes.Equal(room, want) {
		t.Error("what was handed in has changed")
	}
	clear(first)
	clear(room)
	clear(got.Sig)
	_ = append(got.Sig, 1, 2, 3)
	if !bytes.Equal(second, putOf(r, noise(80))) || !bytes.Equal(again.Sig, noise(80)) || !bytes.Equal(sig, noise(80)) {
		t.Error("an answer shares memory")
	}
	text := receipt.Text(r)
	clear(text)
	if !bytes.Equal(receipt.Text(r), textOf(r)) {
		t.Error("a text shares memory")
	}
}

func Test12_4WhatIsPutIsGotAsItWas(t *testing.T) {
	for i, r := range receipts() {
		sig := signatures()[i%9]
		isGot(t, receipt.Signed{Receipt: r, Sig: sig}.Put(), r, sig)
	}
}

// A receipt's own fields are those of the one that is signed.
func Test12_4AReceiptIsEmbedded(t *testing.T) {
	r := receipts()[77]
	s := receipt.Signed{Receipt: r}
	if s.Tower != r.Tower || s.Channel != r.Channel || s.State != r.State || s.Hint != r.Hint || s.Blob != r.Blob {
		t.Errorf("%+v has not the fields of %+v", s, r)
	}
}

func Test12_4ManyAtOnce(t *testing.T) {
	k := newKey(t, 3, 1)
	root, r := k.Root(), receipts()[20]
	s := receipt.Signed{Receipt: r, Sig: signed(t, k, r)}
	var all sync.WaitGroup
	for range 8 {
		all.Go(func() {
			got, e := receipt.Get(s.Put())
			if e != api.OK || !got.Good(root) {
				t.Error("one of many is not good")
			}
		})
	}
	all.Wait()
}
