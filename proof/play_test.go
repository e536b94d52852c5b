package proof_test

import (
	"bytes"
	"crypto/sha256"
	"reflect"
	"slices"
	"testing"

	"bartizan/api"
	"bartizan/appoint"
	"bartizan/commit"
	"bartizan/justice"
	"bartizan/many"
	"bartizan/proof"
	"bartizan/receipt"
	"bartizan/secret"
	"bartizan/tx"
)

// The greatest ones that may be, written out.
const (
	topAmount = 1125899906842624
	topHeight = 1099511627776 // of those that are promised, either way
	topNumber = 1048576       // of a channel, and of a state
	topText   = 65536         // bytes of a proof, and of each of its texts
	topTower  = 15
)

// full is the sum all of whose bits are 1.
func full() api.Sum {
	var s api.Sum
	for i := range s {
		s[i] = 0xff
	}
	return s
}

// risingSum is the sum of the bytes 0 to 31.
func risingSum() api.Sum {
	var s api.Sum
	for i := range s {
		s[i] = byte(i)
	}
	return s
}

// sums are unlike sums, with the least and the greatest one.
func sums() []api.Sum {
	return []api.Sum{{}, full(), risingSum(), {1}, {31: 1}}
}

// noise is n bytes of which no two neighbours are alike.
func noise(n int) []byte {
	b := make([]byte, n)
	for i := range b {
		b[i] = byte(i*7 + i/256)
	}
	return b
}

// joined is Join, by the library's SHA-256.
func joined(tag byte, parts ...[]byte) api.Sum {
	b := []byte{tag}
	for _, p := range parts {
		n := len(p)
		b = append(b, byte(n>>24), byte(n>>16), byte(n>>8), byte(n))
		b = append(b, p...)
	}
	return sha256.Sum256(b)
}

// num is a number's bytes.
func num(n int) []byte {
	var b []byte
	for ; n >= 128; n /= 128 {
		b = append(b, byte(n%128+128))
	}
	return append(b, byte(n))
}

// asText is a text's bytes.
func asText(b []byte) []byte {
	return append(num(len(b)), b...)
}

// textOf is a receipt's text.
func textOf(r api.Receipt) []byte {
	return slices.Concat(num(r.Tower), num(r.Channel), num(r.State), r.Hint[:], r.Blob[:])
}

// packed are a proof's bytes.
func packed(p api.Proof) []byte {
	return slices.Concat(asText(textOf(p.Receipt)), asText(p.Sig), asText(p.Blob), p.Commit[:])
}

// isSame tells whether two proofs are alike, whereby nil and no bytes are the same.
func isSame(a, b api.Proof) bool {
	return a.Receipt == b.Receipt && bytes.Equal(a.Sig, b.Sig) && bytes.Equal(a.Blob, b.Blob) && a.Commit == b.Commit
}

// rightReceipts are receipts that may be, with the edges.
func rightReceipts() []api.Receipt {
	s := sums()
	l := []api.Receipt{{}, {Tower: topTower, Channel: topNumber, State: topNumber, Hint: full(), Blob: full()}}
	for i, n := range []int{0, 1, 127, 128, 16383, 16384, topNumber - 1, topNumber} {
		l = append(l,
			api.Receipt{Tower: i * 2, Channel: n, State: topNumber - n, Hint: s[i%5], Blob: s[(i+1)%5]},
			api.Receipt{Tower: topTower - i, Channel: 3, State: n, Hint: s[(i+2)%5], Blob: s[(i+4)%5]})
	}
	return l
}

// wrongReceipts are receipts that may not be.
func wrongReceipts() []api.Receipt {
	var l []api.Receipt
	for _, n := range []int{-1, -2, -1 << 32, -1 << 63, 16, 17, 1 << 20, 1 << 32, 1<<63 - 1} {
		l = append(l, api.Receipt{Tower: n, Channel: 1, State: 1, Hint: full()})
	}
	for _, n := range []int{-1, -2, -1 << 32, -1 << 63, topNumber + 1, topNumber + 2, 1 << 32, 1<<63 - 1} {
		l = append(l, api.Receipt{Tower: 1, Channel: n, State: 1}, api.Receipt{Tower: 1, Channel: 1, State: n})
	}
	return l
}

// rightProofs are proofs whose bytes there are.
func rightProofs() []api.Proof {
	l := []api.Proof{{}}
	s := sums()
	for i, r := range rightReceipts() {
		for j, n := range []int{0, 1, 127, 128, 4200, 16384} {
			l = append(l, api.Proof{Receipt: r, Sig: noise(n), Blob: noise(16384 - n), Commit: s[(i+j)%5]})
		}
	}
	for _, n := range []int{topText - 1, topText} {
		l = append(l, ofLength(n, api.Proof{Sig: noise(3), Commit: full()}), ofLength(n, api.Proof{Receipt: rightReceipts()[1]}))
	}
	return l
}

// ofLength is a proof whose bytes are n (from 17000 on), by a longer blob.
func ofLength(n int, p api.Proof) api.Proof {
	p.Blob = make([]byte, 16384)
	p.Blob = noise(n - len(packed(p)) + 16384)
	return p
}

// play is a proof, and all that it is held against.
type play struct {
	p      api.Proof
	tower  int
	c      api.Channel
	root   api.Sum
	f      proof.Facts
	height int
}

// plain is a channel of 100.
func plain() api.Channel {
	return api.Channel{Id: 1, Client: 1, Peer: 2, Fund: api.Ref{Tx: api.Sum{7}, At: 3}, Cap: 100, Wait: 6, Window: 4}
}

// plainDeal is a deal of a fee of 10, and 100 thousandths.
func plainDeal() justice.Deal {
	return justice.Deal{Reward: 100, Fee: 10}
}

// stateOf is a state of a channel, in which the peer has a part, and that secrets by the sums of 1 and 2 take back.
func stateOf(c api.Channel, n int, part int64) commit.State {
	return commit.State{N: n, Client: c.Cap - part, Peer: part, Hashes: [2]api.Sum{secret.Point(api.Sum{1}, n), secret.Point(api.Sum{2}, n)}}
}

// commitment is an owner's commitment of such a state.
func commitment(t *testing.T, c api.Channel, n int, part int64, owner int) api.Tx {
	t.Helper()
	x, e := commit.Build(c, stateOf(c, n, part), owner)
	if e != api.OK {
		t.Fatal(e)
	}
	return x
}

// answer is what takes the peer's part of the commitment of such a state.
func answer(t *testing.T, c api.Channel, of api.Tx, n, tower int, d justice.Deal) api.Tx {
	t.Helper()
	x, e := justice.Build(c, of, secret.Of(api.Sum{2}, n), tower, d)
	if e != api.OK {
		t.Fatal(e)
	}
	return x
}

// held is a play whose proof holds: the commitment of a state that was taken back came, and nobody took the part.
func held(t *testing.T) play {
	t.Helper()
	return heldOf(t, plain(), 7, 60, 3)
}

// heldOf is such a play of a channel, a state, the peer's part, and a tower.
func heldOf(t *testing.T, c api.Channel, n int, part int64, tower int) play {
	t.Helper()
	cheat := commitment(t, c, n, part, 1)
	x := play{tower: tower, c: c, f: proof.Facts{Commit: cheat, At: 100}, height: 101 + c.Window}
	x.p.Receipt = api.Receipt{Tower: tower, Channel: c.Id, State: n}
	x.p.Commit = tx.Sum(cheat)
	x.cover(t, answer(t, c, cheat, n, tower, plainDeal()))
	return x
}

// cover covers a transaction, under what the proof says came, and has the tower sign for it.
func (x *play) cover(t *testing.T, j api.Tx) {
	t.Helper()
	b, e := appoint.Cover(x.p.Commit, j)
	if e != api.OK {
		t.Fatal(e)
	}
	x.show(t, b)
}

// show makes bytes the blob, and has the tower sign for it.
func (x *play) show(t *testing.T, blob []byte) {
	t.Helper()
	x.p.Blob = blob
	x.p.Receipt.Hint, x.p.Receipt.Blob = appoint.Hint(x.p.Commit), appoint.Mark(blob)
	x.sign(t)
}

// sign has the tower sign the receipt as it stands, be it one that may be or not.
func (x *play) sign(t *testing.T) {
	t.Helper()
	k, e := many.New(api.Sum{9, byte(x.tower)}, 1)
	if e != api.OK {
		t.Fatal(e)
	}
	x.root = k.Root()
	x.p.Sig, e = k.Sign(receipt.Text(x.p.Receipt))
	if e != api.OK {
		t.Fatal(e)
	}
}

// check holds a proof against all of it.
func (x play) check() api.Errno {
	return proof.Check(x.p, x.tower, x.c, x.root, x.f, x.height)
}

// copied is a play that is alike, and shares no memory.
func (x play) copied() play {
	x.p.Sig, x.p.Blob = bytes.Clone(x.p.Sig), bytes.Clone(x.p.Blob)
	x.f.Commit = copiedTx(x.f.Commit)
	return x
}

// copiedTx is a transaction that is alike, and shares no memory.
func copiedTx(x api.Tx) api.Tx {
	x.Ins, x.Outs, x.Signs = slices.Clone(x.Ins), slices.Clone(x.Outs), slices.Clone(x.Signs)
	for i := range x.Ins {
		x.Ins[i].Pre = bytes.Clone(x.Ins[i].Pre)
	}
	for i := range x.Outs {
		x.Outs[i].Ways = slices.Clone(x.Outs[i].Ways)
		for j, w := range x.Outs[i].Ways {
			x.Outs[i].Ways[j].Keys = slices.Clone(w.Keys)
		}
	}
	x.Op.Data = bytes.Clone(x.Op.Data)
	return x
}

// isTold holds what is told of a play against what must be told, and that nothing of it has changed.
func isTold(t *testing.T, what string, x play, want api.Errno) {
	t.Helper()
	handed := x.copied()
	if got := x.check(); got != want {
		t.Errorf("%s: %v, want %v", what, got, want)
	}
	if !reflect.DeepEqual(x, handed) {
		t.Errorf("%s: what was handed in has changed", what)
	}
}
