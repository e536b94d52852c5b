package proof_test

import (
	"bytes"
	"math"
	"slices"
	"testing"

	"bartizan/api"
	"bartizan/proof"
)

// isGot holds what Get answers against the proof that it must be.
func isGot(t *testing.T, b []byte, want api.Proof) {
	t.Helper()
	got, e := proof.Get(b)
	if e != api.OK || !isSame(got, want) {
		t.Errorf("%d bytes are read as %+v, %d and %d bytes, %v", len(b), got.Receipt, len(got.Sig), len(got.Blob), e)
	}
}

// isRefused holds what Get answers against an error, and nothing.
func isRefused(t *testing.T, b []byte, want api.Errno) {
	t.Helper()
	got, e := proof.Get(b)
	if e != want || !isSame(got, api.Proof{}) {
		t.Errorf("%d bytes, begun with %x, are read as %+v, %v, want %v", len(b), b[:min(8, len(b))], got.Receipt, e, want)
	}
}

// some is a proof of short texts.
func some() api.Proof {
	return api.Proof{Receipt: api.Receipt{Tower: 5, Channel: 300, State: 70000, Hint: full(), Blob: risingSum()}, Sig: noise(130), Blob: noise(200), Commit: api.Sum{3, 31: 4}}
}

func Test17_1GetIsTheProofWhoseBytesTheyAre(t *testing.T) {
	for _, p := range rightProofs() {
		isGot(t, packed(p), p)
	}
	isGot(t, append([]byte{67}, make([]byte, 67+1+1+32)...), api.Proof{})
}

func Test17_1GetOfEachCut(t *testing.T) {
	for _, p := range []api.Proof{{}, some(), {Receipt: rightReceipts()[1], Sig: noise(3)}} {
		b := packed(p)
		for n := range b {
			isRefused(t, b[:n], api.ErrShort)
		}
	}
	isRefused(t, nil, api.ErrShort)
}

func Test17_1GetOfTooMuch(t *testing.T) {
	for _, p := range []api.Proof{{}, some(), rightProofs()[20]} {
		for _, more := range [][]byte{{0}, {7}, make([]byte, 32), noise(300), packed(p)} {
			isRefused(t, append(packed(p), more...), api.ErrLong)
		}
	}
}

// Whatever stands there, more bytes than may be are refused first.
func Test17_1GetOfTooManyBytes(t *testing.T) {
	most := ofLength(topText, some())
	isGot(t, packed(most), most)
	isRefused(t, append(packed(most), 0), api.ErrLong)
	for _, n := range []int{topText + 1, topText + 2, 2 * topText, 300000} {
		isRefused(t, packed(ofLength(n, some())), api.ErrLong)
		isRefused(t, make([]byte, n), api.ErrLong)
		isRefused(t, bytes.Repeat([]byte{0xff}, n), api.ErrLong)
		isRefused(t, append([]byte{0x80, 0}, make([]byte, n)...), api.ErrLong)
	}
	isRefused(t, bytes.Repeat([]byte{0xff}, topText), api.ErrRange)
	isRefused(t, append([]byte{0x80, 0}, make([]byte, topText-2)...), api.ErrForm)
}

// texts are the front of a proof's bytes: ahead of its first text, its second, and its third one.
func texts(p api.Proof) [][]byte {
	first := asText(textOf(p.Receipt))
	second := slices.Concat(first, asText(p.Sig))
	return [][]byte{nil, first, second}
}

// A text of more bytes than there are lacks them; one of more than may be is refused by their number.
func Test17_1GetOfTooLongTexts(t *testing.T) {
	for _, ahead := range texts(some()) {
		for _, n := range []int{topText + 1, topText + 2, 2 * topText, 1 << 32, math.MaxInt} {
			isRefused(t, slices.Concat(ahead, num(n), noise(100)), api.ErrRange)
			isRefused(t, slices.Concat(ahead, num(n)), api.ErrRange)
		}
		for _, n := range []int{101, 1000, topText - 1, topText} {
			isRefused(t, slices.Concat(ahead, num(n), noise(100)), api.ErrShort)
			isRefused(t, slices.Concat(ahead, num(n)), api.ErrShort)
		}
	}
}

func Test17_1GetOfOtherForms(t *testing.T) {
	for _, ahead := range texts(some()) {
		isRefused(t, slices.Concat(ahead, []byte{0x80, 0}, noise(200)), api.ErrForm)
		isRefused(t, slices.Concat(ahead, []byte{0x85, 0}, noise(200)), api.ErrForm)
		isRefused(t, slices.Concat(ahead, []byte{0x85, 0x80, 0}, noise(200)), api.ErrForm)
		isRefused(t, slices.Concat(ahead, bytes.Repeat([]byte{0xff}, 9), noise(200)), api.ErrRange)
		isRefused(t, slices.Concat(ahead, bytes.Repeat([]byte{0xff}, 8)), api.ErrShort)
	}
}

// wrongText is a text that is no receipt's, and the error that it is read with.
type wrongText struct {
	text []byte
	want api.Errno
}

// wrongTexts are such texts.
func wrongTexts() []wrongText {
	r := textOf(some().Receipt)
	return []wrongText{
		{nil, api.ErrShort},
		{r[:1], api.ErrShort},
		{r[:len(r)-1], api.ErrShort},
		{append(slices.Clone(r), 0), api.ErrLong},
		{append(slices.Clone(r), noise(1000)...), api.ErrLong},
		{append([]byte{16, 1, 1}, noise(64)...), api.ErrRange},
		{slices.Concat([]byte{1}, num(topNumber+1), []byte{1}, noise(64)), api.ErrRange},
		{slices.Concat([]byte{1, 1}, num(topNumber+1), noise(64)), api.ErrRange},
		{append([]byte{0x80, 0, 1, 1}, noise(64)...), api.ErrForm},
		{append([]byte{1, 0x81, 0, 1}, noise(64)...), api.ErrForm},
	}
}

// Read's error of the receipt's text stands behind those of all that is read, and of what is left.
func Test17_1GetAnswersTheFirstError(t *testing.T) {
	s := full()
	for _, w := range wrongTexts() {
		b := slices.Concat(asText(w.text), asText(noise(130)), asText(noise(20)))
		isRefused(t, append(slices.Clone(b), s[:]...), w.want)
		isRefused(t, append(slices.Clone(b), s[:31]...), api.ErrShort)
		isRefused(t, b, api.ErrShort)
		isRefused(t, slices.Concat(b, s[:], []byte{0}), api.ErrLong)
		for _, ahead := range [][]byte{asText(w.text), slices.Concat(asText(w.text), asText(noise(130)))} {
			isRefused(t, ahead, api.ErrShort)
			isRefused(t, slices.Concat(ahead, []byte{0x80, 0}, noise(100)), api.ErrForm)
			isRefused(t, slices.Concat(ahead, num(topText+1), noise(100)), api.ErrRange)
		}
		long := slices.Concat(asText(w.text), asText(nil), asText(noise(topText)), s[:])
		isRefused(t, long, api.ErrLong)
	}
	isRefused(t, slices.Concat([]byte{0x80, 0}, num(topText+1), noise(9)), api.ErrForm)
	isRefused(t, slices.Concat(num(topText+1), []byte{0x80, 0}), api.ErrRange)
}

func Test17_1GetAnswersNewMemory(t *testing.T) {
	want := packed(some())
	room := append(packed(some()), noise(50)...)
	handed := slices.Clone(room)
	first, _ := proof.Get(room[:len(want)])
	second, _ := proof.Get(room[:len(want)])
	if !bytes.Equal(room, handed) {
		t.Error("what was handed in has changed")
	}
	clear(room)
	if !isSame(first, some()) {
		t.Error("what was handed in was kept")
	}
	clear(first.Sig)
	_ = append(first.Sig, noise(900)...)
	if !isSame(second, some()) || !bytes.Equal(first.Blob, some().Blob) {
		t.Error("an answer shares memory")
	}
	clear(first.Blob)
	_ = append(first.Blob, noise(900)...)
	if !isSame(second, some()) {
		t.Error("an answer shares memory")
	}
}
