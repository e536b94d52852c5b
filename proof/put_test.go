package proof_test

import (
	"bytes"
	"slices"
	"testing"

	"bartizan/api"
	"bartizan/proof"
)

// isPut holds what Put answers against the bytes that it must be.
func isPut(t *testing.T, p api.Proof, want []byte) {
	t.Helper()
	handed := api.Proof{Receipt: p.Receipt, Sig: slices.Clone(p.Sig), Blob: slices.Clone(p.Blob), Commit: p.Commit}
	got, e := proof.Put(p)
	if e != api.OK || !bytes.Equal(got, want) {
		t.Errorf("of %+v, %d and %d bytes: %d bytes, %v, want %d", p.Receipt, len(p.Sig), len(p.Blob), len(got), e, len(want))
	}
	if !isSame(p, handed) {
		t.Error("what was handed in has changed")
	}
}

// isNotPut holds what Put answers against an error, and nothing.
func isNotPut(t *testing.T, p api.Proof, want api.Errno) {
	t.Helper()
	got, e := proof.Put(p)
	if e != want || len(got) != 0 {
		t.Errorf("of %+v, %d and %d bytes: %d bytes, %v, want %v", p.Receipt, len(p.Sig), len(p.Blob), len(got), e, want)
	}
}

func Test17_1PutIsItsBytes(t *testing.T) {
	for _, p := range rightProofs() {
		isPut(t, p, packed(p))
	}
	zeros := append([]byte{67}, make([]byte, 67+1+1+32)...)
	isPut(t, api.Proof{}, zeros)
	p := api.Proof{Receipt: api.Receipt{Tower: 3, Channel: 300, State: 2, Hint: full(), Blob: risingSum()}, Sig: []byte("sig"), Blob: []byte("a blob"), Commit: api.Sum{5}}
	r := slices.Concat([]byte{3, 172, 2, 2}, bytes.Repeat([]byte{255}, 32), p.Receipt.Blob[:])
	isPut(t, p, slices.Concat([]byte{68}, r, []byte("\x03sig\x06a blob\x05"), make([]byte, 31)))
}

func Test17_1PutOfEachTextsLength(t *testing.T) {
	for n := range 300 {
		p := api.Proof{Receipt: rightReceipts()[n%10], Sig: noise(n), Blob: noise(300 - n), Commit: risingSum()}
		isPut(t, p, packed(p))
	}
}

func Test17_1PutOfReceiptsThatMayNotBe(t *testing.T) {
	for _, r := range wrongReceipts() {
		isNotPut(t, api.Proof{Receipt: r}, api.ErrArg)
		isNotPut(t, api.Proof{Receipt: r, Sig: noise(9), Blob: noise(20), Commit: full()}, api.ErrArg)
		isNotPut(t, api.Proof{Receipt: r, Blob: noise(topText)}, api.ErrArg)
		isNotPut(t, api.Proof{Receipt: r, Sig: noise(topText), Blob: noise(topText + 1)}, api.ErrArg)
	}
}

func Test17_1PutOfTextsThatAreTooLong(t *testing.T) {
	for _, n := range []int{topText + 1, topText + 2, topText + 16, 2 * topText, 200000} {
		isNotPut(t, api.Proof{Sig: noise(n)}, api.ErrArg)
		isNotPut(t, api.Proof{Blob: noise(n)}, api.ErrArg)
		isNotPut(t, api.Proof{Sig: noise(n), Blob: noise(n)}, api.ErrArg)
		isNotPut(t, api.Proof{Sig: noise(topText), Blob: noise(n)}, api.ErrArg)
	}
}

func Test17_1PutOfTooManyBytes(t *testing.T) {
	isNotPut(t, api.Proof{Sig: noise(topText)}, api.ErrLong)
	isNotPut(t, api.Proof{Blob: noise(topText)}, api.ErrLong)
	isNotPut(t, api.Proof{Sig: noise(topText), Blob: noise(topText)}, api.ErrLong)
	isNotPut(t, api.Proof{Sig: noise(topText / 2), Blob: noise(topText / 2)}, api.ErrLong)
	for _, r := range rightReceipts() {
		for _, sig := range [][]byte{nil, noise(1), noise(4200)} {
			p := api.Proof{Receipt: r, Sig: sig, Commit: full()}
			for n := topText - 3; n <= topText; n++ {
				most := ofLength(n, p)
				isPut(t, most, packed(most))
			}
			for n := topText + 1; n < topText+5; n++ {
				isNotPut(t, ofLength(n, p), api.ErrLong)
			}
		}
	}
}

// Both long texts count.
func Test17_1PutOfALongSignature(t *testing.T) {
	p := ofLength(topText, api.Proof{Receipt: rightReceipts()[5]})
	p.Sig, p.Blob = p.Blob, nil
	isPut(t, p, packed(p))
	p.Sig = append(p.Sig, 0)
	isNotPut(t, p, api.ErrLong)
}

func Test17_1PutNilAndEmptyAreTheSame(t *testing.T) {
	isPut(t, api.Proof{Sig: []byte{}, Blob: []byte{}}, packed(api.Proof{}))
	isPut(t, api.Proof{Sig: []byte{}, Blob: []byte{1}}, packed(api.Proof{Blob: []byte{1}}))
}

func Test17_1PutAnswersNewMemory(t *testing.T) {
	p := api.Proof{Receipt: rightReceipts()[6], Sig: noise(80), Blob: noise(90), Commit: risingSum()}
	want := packed(p)
	first, _ := proof.Put(p)
	second, _ := proof.Put(p)
	clear(first)
	_ = append(first, 1, 2, 3)
	if !bytes.Equal(second, want) || !bytes.Equal(p.Sig, noise(80)) || !bytes.Equal(p.Blob, noise(90)) {
		t.Error("an answer shares memory")
	}
	clear(p.Sig)
	clear(p.Blob)
	if !bytes.Equal(second, want) {
		t.Error("what was handed in was kept")
	}
}
