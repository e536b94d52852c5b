package receipt_test

import (
	"bytes"
	"crypto/sha256"
	"encoding/hex"
	"math"
	"slices"
	"testing"

	"bartizan/api"
	"bartizan/many"
	"bartizan/receipt"
)

// How great a tower, and a channel or a state, are at most, written out.
const (
	topTower = 15
	topState = 1048576
)

// wrong are numbers beyond any bound.
var wrong = []int{-1, -2, -topState, math.MinInt, math.MaxInt, 1 << 32, 1 << 40}

// sums are unlike sums, with the least and the greatest one.
func sums() []api.Sum {
	var full, rising api.Sum
	for i := range full {
		full[i] = 0xff
		rising[i] = byte(i)
	}
	return []api.Sum{{}, full, rising, {1}, {31: 1}}
}

// num is a number's bytes.
func num(n int) []byte {
	var b []byte
	for n >= 128 {
		b = append(b, byte(n%128+128))
		n /= 128
	}
	return append(b, byte(n))
}

// front are a receipt's three numbers' bytes.
func front(tower, channel, state int) []byte {
	return slices.Concat(num(tower), num(channel), num(state))
}

// textOf is the text of a receipt that may be.
func textOf(r api.Receipt) []byte {
	return slices.Concat(front(r.Tower, r.Channel, r.State), r.Hint[:], r.Blob[:])
}

// receipts are receipts that may be, with all bounds.
func receipts() []api.Receipt {
	var l []api.Receipt
	s := sums()
	for i, tower := range []int{0, 1, 7, 14, topTower} {
		for j, channel := range []int{0, 1, 127, 128, 16383, 16384, topState - 1, topState} {
			for k, state := range []int{0, 1, 127, 128, 300, topState - 1, topState} {
				l = append(l, api.Receipt{Tower: tower, Channel: channel, State: state, Hint: s[(i+j+k)%len(s)], Blob: s[(i+2*j+3*k+1)%len(s)]})
			}
		}
	}
	return l
}

// wrongReceipts are receipts that may not be: each by one of its numbers.
func wrongReceipts() []api.Receipt {
	var l []api.Receipt
	for _, n := range append([]int{topTower + 1, 31, 127, 128, 255, 256}, wrong...) {
		l = append(l, api.Receipt{Tower: n, Channel: 2, State: 3}, api.Receipt{Tower: n})
	}
	for _, n := range append([]int{topState + 1, topState + 2, 2 * topState, 1 << 30}, wrong...) {
		l = append(l, api.Receipt{Tower: 1, Channel: n, State: 3}, api.Receipt{Tower: 1, Channel: 2, State: n})
	}
	return append(l, api.Receipt{Tower: -1, Channel: -1, State: -1}, api.Receipt{Tower: topTower + 1, Channel: topState + 1, State: topState + 1})
}

// noise is n bytes that no call made.
func noise(n int) []byte {
	b := make([]byte, n)
	for i := range b {
		b[i] = byte(i*i>>3 + 5*i)
	}
	return b
}

func newKey(t *testing.T, seed byte, leaves int) *many.Key {
	t.Helper()
	k, e := many.New(api.Sum{seed}, leaves)
	if e != api.OK {
		t.Fatalf("a key of %d leaves: %v", leaves, e)
	}
	return k
}

func signed(t *testing.T, k *many.Key, r api.Receipt) []byte {
	t.Helper()
	sig, e := receipt.Sign(k, r)
	if e != api.OK || len(sig) == 0 {
		t.Fatalf("%+v is signed by %d bytes, %v", r, len(sig), e)
	}
	return sig
}

// isRead holds what Read answers against the receipt that it must be.
func isRead(t *testing.T, b []byte, want api.Receipt) {
	t.Helper()
	got, e := receipt.Read(b)
	if e != api.OK || got != want {
		t.Errorf("%x is read as %+v, %v, want %+v", b, got, e, want)
	}
}

// isUnread holds what Read answers against an error.
func isUnread(t *testing.T, b []byte, want api.Errno) {
	t.Helper()
	got, e := receipt.Read(b)
	if e != want || got != (api.Receipt{}) {
		t.Errorf("%x is read as %+v, %v, want %v", b[:min(12, len(b))], got, e, want)
	}
}

func isVerified(t *testing.T, want bool, root api.Sum, r api.Receipt, sig []byte) {
	t.Helper()
	if got := receipt.Verify(root, r, sig); got != want {
		t.Errorf("%+v, by %d bytes, is verified: %v, want %v", r, len(sig), got, want)
	}
	if got := (receipt.Signed{Receipt: r, Sig: sig}).Good(root); got != want {
		t.Errorf("%+v, by %d bytes, is good: %v, want %v", r, len(sig), got, want)
	}
}

func Test12_1Right(t *testing.T) {
	for _, r := range receipts() {
		if !receipt.Right(r) {
			t.Errorf("%+v may be", r)
		}
	}
	for tower := -3; tower < 20; tower++ {
		if got := receipt.Right(api.Receipt{Tower: tower}); got != (tower >= 0 && tower <= topTower) {
			t.Errorf("of the tower %d, right is %v", tower, got)
		}
	}
}

func Test12_1WrongNumbersMayNotBe(t *testing.T) {
	for _, r := range wrongReceipts() {
		if receipt.Right(r) {
			t.Errorf("%+v may not be", r)
		}
	}
}

func Test12_1TextIsNumbersAndSums(t *testing.T) {
	for _, r := range receipts() {
		if got := receipt.Text(r); !bytes.Equal(got, textOf(r)) {
			t.Errorf("the text of %+v is %x", r, got)
		}
	}
}

// These texts are summed as they were put together in another language.
func Test12_1KnownTexts(t *testing.T) {
	s := sums()
	for want, r := range map[string]api.Receipt{
		"1be2b3990b410ca4fb38d1f79019c4018cd8820b69618646c81d22dfcbddc802": {},
		"740efcf3a148fbe27d73850f43b8e3e68ef52ebccd24f2655d8dcd647936e625": {Tower: 15, Channel: 1 << 20, State: 1 << 20, Hint: s[2], Blob: s[1]},
		"e0b7f544c0a36f53f64339e53121652ee235fa0154e79ef0e9264f6843f39c93": {Tower: 3, Channel: 300, State: 77, Hint: s[1], Blob: s[2]},
	} {
		sum := sha256.Sum256(receipt.Text(r))
		if got := hex.EncodeToString(sum[:]); got != want {
			t.Errorf("the text of %+v is summed to %s", r, got)
		}
	}
}

// Numbers that may not be are written as wire writes them: those below 0 as 0.
func Test12_1TextOfWhatMayNotBe(t *testing.T) {
	for _, r := range wrongReceipts() {
		want := r
		want.Tower, want.Channel, want.State = max(r.Tower, 0), max(r.Channel, 0), max(r.State, 0)
		if got := receipt.Text(r); !bytes.Equal(got, textOf(want)) {
			t.Errorf("the text of %+v is %x", r, got)
		}
	}
}

func Test12_1ReadIsTheReceiptWhoseTextItIs(t *testing.T) {
	for _, r := range receipts() {
		isRead(t, textOf(r), r)
	}
}

func Test12_1ReadOfNumbersAboveWhatMayBe(t *testing.T) {
	tail := noise(64)
	for _, n := range []int{topTower + 1, 17, 127, 128, topState, 1 << 32, math.MaxInt} {
		isUnread(t, append(front(n, 1, 1), tail...), api.ErrRange)
		isUnread(t, num(n), api.ErrRange)
	}
	for _, n := range []int{topState + 1, 2 * topState, 1 << 32, math.MaxInt} {
		isUnread(t, append(front(1, n, 1), tail...), api.ErrRange)
		isUnread(t, append(front(1, 1, n), tail...), api.ErrRange)
		isUnread(t, append(front(1, 1, n), 0, 0), api.ErrRange)
	}
}

func Test12_1ReadOfEachCut(t *testing.T) {
	for _, r := range receipts() {
		b := textOf(r)
		for n := range b {
			isUnread(t, b[:n], api.ErrShort)
		}
	}
	isUnread(t, nil, api.ErrShort)
}

func Test12_1ReadOfTooMuch(t *testing.T) {
	for _, r := range receipts() {
		for _, more := range [][]byte{{0}, {7}, make([]byte, 32), noise(70000)} {
			isUnread(t, append(textOf(r), more...), api.ErrLong)
		}
	}
}

func Test12_1ReadOfOtherForms(t *testing.T) {
	tail := noise(64)
	for _, c := range []struct {
		front []byte
		want  api.Errno
	}{
		{[]byte{0x80, 0, 1, 1}, api.ErrForm},
		{[]byte{0x8f, 0, 1, 1}, api.ErrForm},
		{[]byte{1, 0x81, 0, 1}, api.ErrForm},
		{[]byte{1, 1, 0x81, 0x80, 0}, api.ErrForm},
		{bytes.Repeat([]byte{0xff}, 9), api.ErrRange},
		{append([]byte{1}, bytes.Repeat([]byte{0xff}, 9)...), api.ErrRange},
		{append([]byte{1, 1}, bytes.Repeat([]byte{0x80}, 9)...), api.ErrRange},
	} {
		isUnread(t, append(c.front, tail...), c.want)
	}
}

// The first error of what is read stays, whatever stands behind it.
func Test12_1ReadAnswersTheFirstError(t *testing.T) {
	isUnread(t, append([]byte{16, 0x80, 0, 1}, noise(64)...), api.ErrRange)
	isUnread(t, append([]byte{0x80, 0, 1, 1}, front(16, topState+1, 1)...), api.ErrForm)
	isUnread(t, append(front(1, topState+1, topState+1), noise(200)...), api.ErrRange)
	isUnread(t, []byte{1, 0x80, 0}, api.ErrForm)
	isUnread(t, []byte{1, 0x80}, api.ErrShort)
	isUnread(t, append([]byte{1, 0x80, 0, 1}, noise(200)...), api.ErrForm)
}

func Test12_2SignIsOfTheText(t *testing.T) {
	k, other := newKey(t, 7, 8), newKey(t, 7, 8)
	for i, r := range receipts()[:8] {
		want, _ := other.Sign(textOf(r))
		if got := signed(t, k, r); !bytes.Equal(got, want) {
			t.Errorf("%+v is signed otherwise than its text", r)
		}
		if k.Next() != i+1 {
			t.Errorf("behind %d receipts the next leaf is %d", i+1, k.Next())
		}
	}
	for range 2 {
		if sig, e := receipt.Sign(k, receipts()[0]); e != api.ErrUsed || len(sig) != 0 {
			t.Errorf("without a leaf, %d bytes are signed, %v", len(sig), e)
		}
	}
}

func Test12_2SignOfWhatMayNotBeUsesNoLeaf(t *testing.T) {
	k, used := newKey(t, 7, 2), newKey(t, 8, 1)
	used.Skip(1)
	for _, r := range wrongReceipts() {
		for _, key := range []*many.Key{k, used, nil, {}} {
			if sig, e := receipt.Sign(key, r); e != api.ErrArg || len(sig) != 0 {
				t.Errorf("%+v is signed by %d bytes, %v", r, len(sig), e)
			}
		}
	}
	if k.Next() != 0 || k.Left() != 2 {
		t.Errorf("the next leaf is %d, with %d left", k.Next(), k.Left())
	}
}

func Test12_2SignOfKeysWithoutLeaves(t *testing.T) {
	for _, k := range []*many.Key{nil, {}} {
		if sig, e := receipt.Sign(k, receipts()[3]); e != api.ErrUsed || len(sig) != 0 {
			t.Errorf("without a leaf, %d bytes are signed, %v", len(sig), e)
		}
	}
}

func Test12_2VerifyIsOfTheText(t *testing.T) {
	k := newKey(t, 7, 16)
	root := k.Root()
	for _, r := range receipts()[100:116] {
		sig, _ := k.Sign(textOf(r))
		isVerified(t, true, root, r, sig)
		isVerified(t, false, api.Sum{}, r, sig)
		isVerified(t, false, newKey(t, 8, 16).Root(), r, sig)
	}
}

func Test12_2EachFieldCounts(t *testing.T) {
	k := newKey(t, 7, 1)
	root, r := k.Root(), api.Receipt{Tower: 3, Channel: 4, State: 5, Hint: sums()[2], Blob: sums()[3]}
	sig := signed(t, k, r)
	isVerified(t, true, root, r, sig)
	for _, f := range []func(r *api.Receipt){
		func(r *api.Receipt) { r.Tower = 4 },
		func(r *api.Receipt) { r.Channel = 5 },
		func(r *api.Receipt) { r.State = 4 },
		func(r *api.Receipt) { r.Hint[31] ^= 1 },
		func(r *api.Receipt) { r.Blob[0] ^= 1 },
		func(r *api.Receipt) { r.Hint, r.Blob = r.Blob, r.Hint },
		func(r *api.Receipt) { r.Tower, r.Channel = r.Channel, r.Tower },
	} {
		other := r
		f(&other)
		isVerified(t, false, root, other, sig)
	}
}

// A text that a key signed, of a receipt that may not be, is no receipt.
func Test12_2VerifyOfWhatMayNotBe(t *testing.T) {
	k := newKey(t, 7, 64)
	root := k.Root()
	for _, r := range wrongReceipts() {
		sig, e := k.Sign(receipt.Text(r))
		if e != api.OK {
			t.Fatal(e)
		}
		if !many.Verify(root, receipt.Text(r), sig) {
			t.Fatal("the text itself is not verified")
		}
		isVerified(t, false, root, r, sig)
	}
}

func Test12_2VerifyOfOtherBytes(t *testing.T) {
	k := newKey(t, 7, 3)
	root, r := k.Root(), receipts()[9]
	sig := signed(t, k, r)
	for _, b := range [][]byte{nil, {}, {0}, noise(50), textOf(r), sig[1:], sig[:len(sig)-1], append(slices.Clone(sig), 0)} {
		isVerified(t, false, root, r, b)
	}
	for i := 0; i < len(sig); i += 97 {
		sig[i] ^= 1
		isVerified(t, false, root, r, sig)
		sig[i] ^= 1
	}
	isVerified(t, true, root, r, sig)
}

func Test12_2WhatIsHandedInIsNotChanged(t *testing.T) {
	k := newKey(t, 7, 2)
	r := receipts()[50]
	sig := signed(t, k, r)
	room := append(slices.Clone(sig), noise(40)...)
	want := slices.Clone(room)
	isVerified(t, true, k.Root(), r, room[:len(sig)])
	if !bytes.Equal(room, want) {
		t.Error("a signature that was handed in has changed")
	}
	text := append(textOf(r), noise(40)...)
	want = slices.Clone(text)
	isRead(t, text[:len(text)-40], r)
	if !bytes.Equal(text, want) {
		t.Error("a text that was handed in has changed")
	}
}

func Test12_4WhatMayBeIsReadAsItWas(t *testing.T) {
	for _, r := range receipts() {
		isRead(t, receipt.Text(r), r)
	}
}

// Receipts that are unlike have texts that are unlike.
func Test12_4TextsAreUnlike(t *testing.T) {
	seen := map[string]api.Receipt{}
	for _, r := range receipts() {
		b := string(receipt.Text(r))
		if other, ok := seen[b]; ok && other != r {
			t.Errorf("%+v and %+v have one text", r, other)
		}
		seen[b] = r
	}
}

func Test12_4WhatIsSignedIsGood(t *testing.T) {
	k := newKey(t, 9, 64)
	root := k.Root()
	for i := range 64 {
		r := receipts()[i*4]
		s := receipt.Signed{Receipt: r, Sig: signed(t, k, r)}
		if !s.Good(root) || !receipt.Verify(root, r, s.Sig) || many.Leaf(s.Sig) != i {
			t.Errorf("%+v is not good under its key's root", r)
		}
		back, e := receipt.Get(s.Put())
		if e != api.OK || !back.Good(root) {
			t.Errorf("%+v is not good as it is read, %v", back.Receipt, e)
		}
	}
}
