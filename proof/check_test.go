package proof_test

import (
	"fmt"
	"math"
	"slices"
	"testing"

	"bartizan/api"
	"bartizan/appoint"
	"bartizan/commit"
	"bartizan/justice"
	"bartizan/lock"
	"bartizan/many"
	"bartizan/tx"
	"bartizan/veil"
)

func Test17_3AProofHolds(t *testing.T) {
	isTold(t, "plain", held(t), api.OK)
	for tower := range 16 {
		isTold(t, fmt.Sprint("of the tower ", tower), heldOf(t, plain(), 7, 60, tower), api.OK)
	}
	for _, n := range []int{0, 1, 127, 128, topNumber} {
		for _, part := range []int64{0, 1, 10, 11, 99, 100} {
			isTold(t, fmt.Sprint("of the state ", n, " and ", part), heldOf(t, plain(), n, part, 3), api.OK)
		}
	}
	for _, c := range channels() {
		isTold(t, fmt.Sprintf("of %+v", c), heldOf(t, c, 7, c.Cap, 3), api.OK)
	}
}

// channels are unlike channels that may be, with the edges.
func channels() []api.Channel {
	var l []api.Channel
	for _, change := range []func(c *api.Channel){
		func(c *api.Channel) { c.Id = 0 },
		func(c *api.Channel) { c.Id = topNumber },
		func(c *api.Channel) { c.Client, c.Peer = 2, 1 },
		func(c *api.Channel) { c.Client, c.Peer = 255, 0 },
		func(c *api.Channel) { c.Client, c.Peer = 0, 103 },
		func(c *api.Channel) { c.Fund = api.Ref{} },
		func(c *api.Channel) { c.Fund = api.Ref{Tx: full(), At: 15} },
		func(c *api.Channel) { c.Cap = 1 },
		func(c *api.Channel) { c.Cap = topAmount },
		func(c *api.Channel) { c.Window, c.Wait = 1, 2 },
		func(c *api.Channel) { c.Window, c.Wait = 65535, 65536 },
	} {
		c := plain()
		change(&c)
		l = append(l, c)
	}
	return l
}

func Test17_3OfAnotherTowerOrChannel(t *testing.T) {
	for _, tower := range []int{0, 2, 4, 15, 16, 255, -1, -3, 3 + 1<<32, math.MaxInt, math.MinInt} {
		x := held(t)
		x.tower = tower
		isTold(t, fmt.Sprint("against the tower ", tower), x, api.ErrTower)
	}
	for _, id := range []int{0, 2, -1, topNumber, 1 + 1<<32, math.MaxInt, math.MinInt} {
		x := held(t)
		x.c.Id = id
		isTold(t, fmt.Sprint("for the channel ", id), x, api.ErrTower)
		x.tower = 4
		isTold(t, fmt.Sprint("against 4 for the channel ", id), x, api.ErrTower)
	}
	x := held(t)
	x.p.Receipt.Tower = 4
	isTold(t, "a receipt of 4", x, api.ErrTower)
	x.p.Receipt.Tower, x.p.Receipt.Channel = 1, 3
	isTold(t, "numbers that are interchanged", x, api.ErrTower)
	isTold(t, "nothing at all", play{tower: 1}, api.ErrTower)
}

func Test17_3OtherRoots(t *testing.T) {
	x := held(t)
	root := x.root
	for i := range 256 {
		x.root = root
		x.root[i/8] ^= 1 << (i % 8)
		isTold(t, fmt.Sprint("bit of the root ", i), x, api.ErrSign)
	}
	for _, s := range sums() {
		x.root = s
		isTold(t, fmt.Sprintf("under %x", s[:4]), x, api.ErrSign)
	}
	x.root = root
	isTold(t, "under its root", x, api.OK)
}

func Test17_3OtherSignatures(t *testing.T) {
	x := held(t)
	sig := x.p.Sig
	for _, b := range [][]byte{nil, {}, {0}, noise(4101), sig[1:], sig[:len(sig)-1], append(slices.Clone(sig), 0), x.p.Blob} {
		x.p.Sig = b
		isTold(t, fmt.Sprint(len(b), " bytes of signature"), x, api.ErrSign)
	}
	for i := 0; i < len(sig); i += 61 {
		x.p.Sig = slices.Clone(sig)
		x.p.Sig[i] ^= 1
		isTold(t, fmt.Sprint("byte of the signature ", i), x, api.ErrSign)
	}
	other := heldOf(t, plain(), 8, 60, 3)
	x.p.Sig = other.p.Sig
	isTold(t, "the signature of another state", x, api.ErrSign)
}

// What is signed is each part of the receipt.
func Test17_3ReceiptsThatAreChanged(t *testing.T) {
	for i, change := range []func(r *api.Receipt){
		func(r *api.Receipt) { r.State++ },
		func(r *api.Receipt) { r.State = 0 },
		func(r *api.Receipt) { r.State = -1 },
		func(r *api.Receipt) { r.State = topNumber + 1 },
		func(r *api.Receipt) { r.Hint[0] ^= 1 },
		func(r *api.Receipt) { r.Hint[31] ^= 128 },
		func(r *api.Receipt) { r.Blob[0] ^= 1 },
		func(r *api.Receipt) { r.Blob[31] ^= 128 },
		func(r *api.Receipt) { r.Hint, r.Blob = r.Blob, r.Hint },
	} {
		x := held(t)
		change(&x.p.Receipt)
		isTold(t, fmt.Sprint("change ", i), x, api.ErrSign)
	}
	both := held(t)
	both.p.Receipt.Tower, both.tower = 4, 4
	isTold(t, "both of another tower", both, api.ErrSign)
	both = held(t)
	both.p.Receipt.Channel, both.c.Id = 2, 2
	isTold(t, "both of another channel", both, api.ErrSign)
}

// Of a receipt that may not be nothing is verified, though its tower signed it.
func Test17_3ReceiptsThatMayNotBe(t *testing.T) {
	for _, n := range []int{-1, 16, 300, 1 << 32, math.MinInt, math.MaxInt} {
		x := held(t)
		x.tower, x.p.Receipt.Tower = n, n
		x.sign(t)
		isTold(t, fmt.Sprint("the tower ", n), x, api.ErrSign)
	}
	for _, n := range []int{-1, topNumber + 1, 1 << 32, math.MinInt, math.MaxInt} {
		x := held(t)
		x.c.Id, x.p.Receipt.Channel = n, n
		x.sign(t)
		isTold(t, fmt.Sprint("the channel ", n), x, api.ErrSign)
		x = held(t)
		x.p.Receipt.State = n
		x.sign(t)
		isTold(t, fmt.Sprint("the state ", n), x, api.ErrSign)
	}
}

// The number of the state is the tower's word alone: what it watches for is the hint.
func Test17_3AnyStatesNumber(t *testing.T) {
	for _, n := range []int{0, 6, 8, topNumber} {
		x := held(t)
		x.p.Receipt.State = n
		x.sign(t)
		isTold(t, fmt.Sprint("the state ", n), x, api.OK)
	}
}

// Whichever leaf signed, of as many as a key may have.
func Test17_3AnyLeaf(t *testing.T) {
	for _, leaves := range []int{1, 2, 3, 5, many.MaxLeaves} {
		x := held(t)
		k, e := many.New(api.Sum{5}, leaves)
		if e != api.OK {
			t.Fatal(e)
		}
		x.root = k.Root()
		for i := range leaves {
			x.p.Sig, _ = k.Sign(textOf(x.p.Receipt))
			isTold(t, fmt.Sprint("leaf ", i, " of ", leaves), x, api.OK)
		}
	}
}

func Test17_3OtherHintsBlobsAndCommitments(t *testing.T) {
	good := held(t)
	for i := range 256 {
		x := good
		x.p.Commit[i/8] ^= 1 << (i % 8)
		isTold(t, fmt.Sprint("bit of what came ", i), x, api.ErrProof)
	}
	for i := range 8 * len(good.p.Blob) {
		x := good.copied()
		x.p.Blob[i/8] ^= 1 << (i % 8)
		isTold(t, fmt.Sprint("bit of the blob ", i), x, api.ErrProof)
	}
	for i := 0; i < 256; i += 17 {
		x := good
		x.p.Receipt.Hint[i/8] ^= 1 << (i % 8)
		x.sign(t)
		isTold(t, fmt.Sprint("bit of the hint ", i), x, api.ErrProof)
		x = good
		x.p.Receipt.Blob[i/8] ^= 1 << (i % 8)
		x.sign(t)
		isTold(t, fmt.Sprint("bit of the blob's mark ", i), x, api.ErrProof)
	}
	for _, b := range [][]byte{nil, {}, good.p.Blob[1:], good.p.Blob[:len(good.p.Blob)-1], append(slices.Clone(good.p.Blob), 0), noise(topText + 17)} {
		x := good
		x.p.Blob = b
		isTold(t, fmt.Sprint(len(b), " bytes of blob"), x, api.ErrProof)
	}
}

// A hint, and a mark, are none of the sums that they are of, nor of each other.
func Test17_3HintsAndMarksAreTheirOwn(t *testing.T) {
	good := held(t)
	for i, s := range []api.Sum{{}, good.p.Commit, appoint.Mark(good.p.Blob), appoint.Mark(good.p.Commit[:]), appoint.Hint(good.p.Receipt.Hint)} {
		x := good
		x.p.Receipt.Hint = s
		x.sign(t)
		isTold(t, fmt.Sprint("the hint ", i), x, api.ErrProof)
	}
	for i, s := range []api.Sum{{}, good.p.Commit, appoint.Hint(good.p.Commit), appoint.Mark(nil)} {
		x := good
		x.p.Receipt.Blob = s
		x.sign(t)
		isTold(t, fmt.Sprint("the mark ", i), x, api.ErrProof)
	}
}

func Test17_3OtherTransactionsThanTheCommitment(t *testing.T) {
	peaceful, e := commit.Close(plain(), stateOf(plain(), 7, 60))
	if e != api.OK {
		t.Fatal(e)
	}
	for what, of := range map[string]api.Tx{
		"nothing":                {},
		"of the client":          commitment(t, plain(), 7, 60, 0),
		"of the state before":    commitment(t, plain(), 6, 60, 1),
		"of the state behind":    commitment(t, plain(), 8, 60, 1),
		"of another part":        commitment(t, plain(), 7, 61, 1),
		"in peace":               peaceful,
		"what answers it itself": answer(t, plain(), held(t).f.Commit, 7, 3, plainDeal()),
	} {
		x := held(t)
		x.f.Commit = of
		isTold(t, what, x, api.ErrCoin)
	}
}

// What came must be what the proof names, though what is covered answers what came.
func Test17_3AnotherCommitmentThanTheProofNames(t *testing.T) {
	x := held(t)
	x.f.Commit = commitment(t, plain(), 6, 60, 1)
	x.cover(t, answer(t, plain(), x.f.Commit, 6, 3, plainDeal()))
	isTold(t, "what answers what came", x, api.ErrCoin)
	for i := range 256 {
		x := held(t)
		x.p.Commit[i/8] ^= 1 << (i % 8)
		x.cover(t, answer(t, plain(), x.f.Commit, 7, 3, plainDeal()))
		isTold(t, fmt.Sprint("bit of what came ", i), x, api.ErrCoin)
	}
	x = held(t)
	x.f.Commit = commitment(t, plain(), 6, 60, 1)
	x.show(t, noise(20))
	isTold(t, "what is not uncovered", x, api.ErrCoin)
}

// Though all else is for just what came, that must be the peer's commitment of the channel.
func Test17_3OnlyThePeersCommitment(t *testing.T) {
	peaceful, _ := commit.Close(plain(), stateOf(plain(), 7, 60))
	for what, of := range map[string]api.Tx{
		"nothing":       {},
		"of the client": commitment(t, plain(), 7, 60, 0),
		"in peace":      peaceful,
	} {
		x := held(t)
		x.f.Commit, x.p.Commit = of, tx.Sum(of)
		x.cover(t, answer(t, plain(), held(t).f.Commit, 7, 3, plainDeal()))
		isTold(t, what, x, api.ErrCoin)
	}
	for i, change := range commitChanges() {
		x := held(t)
		x.f.Commit = copiedTx(x.f.Commit)
		change(&x.f.Commit)
		x.p.Commit = tx.Sum(x.f.Commit)
		x.cover(t, answer(t, plain(), held(t).f.Commit, 7, 3, plainDeal()))
		isTold(t, fmt.Sprint("change ", i), x, api.ErrCoin)
	}
}

// commitChanges change the plain channel's commitment so that it is none.
func commitChanges() []func(x *api.Tx) {
	return []func(x *api.Tx){
		func(x *api.Tx) { x.Ins = nil },
		func(x *api.Tx) { x.Ins = append(x.Ins, api.In{}) },
		func(x *api.Tx) { x.Ins[0].Ref.At++ },
		func(x *api.Tx) { x.Ins[0].Ref.Tx[31] ^= 1 },
		func(x *api.Tx) { x.Outs = x.Outs[:1] },
		func(x *api.Tx) { x.Outs = append(x.Outs, lock.To(1, 0)) },
		func(x *api.Tx) { x.Outs[0].Ways = x.Outs[0].Ways[:1] },
		func(x *api.Tx) { x.Outs[0].Ways[1].Keys[0] = 2 },
		func(x *api.Tx) { x.Outs[0].Ways[1].Hash = api.Sum{} },
		func(x *api.Tx) { x.Outs[0].Ways[0].Wait++ },
		func(x *api.Tx) { x.Outs[0], x.Outs[1] = x.Outs[1], x.Outs[0] },
		func(x *api.Tx) { x.Op.Kind = api.OpAsk },
	}
}

func Test17_3OfAnotherChannel(t *testing.T) {
	for i, change := range []func(c *api.Channel){
		func(c *api.Channel) { c.Client = 3 },
		func(c *api.Channel) { c.Peer = 3 },
		func(c *api.Channel) { c.Client, c.Peer = c.Peer, c.Client },
		func(c *api.Channel) { c.Client, c.Peer = 1, 1 },
		func(c *api.Channel) { c.Client, c.Peer = 2, 2 },
		func(c *api.Channel) { c.Client = -1 },
		func(c *api.Channel) { c.Peer = 256 },
		func(c *api.Channel) { c.Fund.At = 4 },
		func(c *api.Channel) { c.Fund.Tx[31] ^= 1 },
		func(c *api.Channel) { c.Wait = 7 },
	} {
		x := held(t)
		change(&x.c)
		isTold(t, fmt.Sprint("change ", i), x, api.ErrCoin)
	}
	x := held(t)
	x.c.Cap = -5
	isTold(t, "of another whole amount", x, api.OK)
}

// A commitment is its owner's, though the keys of a channel are one: the client is named first.
func Test17_3OfLikeKeys(t *testing.T) {
	x := held(t)
	x.c.Client = 2
	x.f.Commit = copiedTx(x.f.Commit)
	x.f.Commit.Outs[0].Ways[1].Keys[0], x.f.Commit.Outs[1].Ways[0].Keys[0] = 2, 2
	if got := commit.Owner(x.c, x.f.Commit); got != 0 {
		t.Fatalf("it is that of %d", got)
	}
	x.p.Commit = tx.Sum(x.f.Commit)
	x.cover(t, answer(t, x.c, x.f.Commit, 7, 3, plainDeal()))
	isTold(t, "like keys", x, api.ErrCoin)
}

// What does not change a commitment's sum may be any.
func Test17_3OfWhatMayBeAny(t *testing.T) {
	for i, change := range []func(x *api.Tx){
		func(x *api.Tx) { *x = tx.Signed(*x, 1, 2) },
		func(x *api.Tx) { x.Signs = make([]api.Sign, 30) },
		func(x *api.Tx) { x.Ins[0].Pre = []byte("shown") },
		func(x *api.Tx) { x.Ins[0].Pre = make([]byte, 1000) },
	} {
		x := held(t)
		x.f.Commit = copiedTx(x.f.Commit)
		change(&x.f.Commit)
		isTold(t, fmt.Sprint("change ", i), x, api.OK)
	}
}

// closedUnder is a text that is covered under the key of what came.
func closedUnder(t *testing.T, came api.Sum, text []byte) []byte {
	t.Helper()
	b, e := veil.Close(joined(72, came[:]), text)
	if e != api.OK {
		t.Fatal(e)
	}
	return b
}

func Test17_3BlobsThatAreNotUncovered(t *testing.T) {
	for _, k := range []struct {
		blob []byte
		want api.Errno
	}{
		{nil, api.ErrShort}, {noise(1), api.ErrShort}, {noise(15), api.ErrShort},
		{noise(16), api.ErrForm}, {noise(17), api.ErrForm}, {noise(1000), api.ErrForm}, {noise(topText + 16), api.ErrForm},
		{noise(topText + 17), api.ErrLong}, {noise(200000), api.ErrLong},
	} {
		x := held(t)
		x.show(t, k.blob)
		isTold(t, fmt.Sprint(len(k.blob), " bytes"), x, k.want)
	}
	x := held(t)
	other, _ := appoint.Cover(appoint.Hint(x.p.Commit), answer(t, plain(), x.f.Commit, 7, 3, plainDeal()))
	x.show(t, other)
	isTold(t, "covered under another key", x, api.ErrForm)
}

// What is uncovered, but is no transaction, is told by Read.
func Test17_3BlobsThatCoverNoTransaction(t *testing.T) {
	least, _ := tx.Bytes(api.Tx{Ins: []api.In{{}}})
	for _, k := range []struct {
		text []byte
		want api.Errno
	}{
		{nil, api.ErrShort},
		{least[:len(least)-1], api.ErrShort},
		{append(slices.Clone(least[:50]), 9), api.ErrShort},
		{[]byte{17}, api.ErrRange},
		{[]byte{0x80, 0}, api.ErrForm},
		{make([]byte, 40), api.ErrForm},
		{make([]byte, 41), api.ErrLong},
	} {
		x := held(t)
		x.show(t, closedUnder(t, x.p.Commit, k.text))
		isTold(t, fmt.Sprintf("the text %x", k.text), x, k.want)
	}
}

// signedBy is a transaction that just these keys signed.
func signedBy(j api.Tx, keys ...int) api.Tx {
	j.Signs = nil
	return tx.Signed(j, keys...)
}

func Test17_3WhatWouldNotTakeThePart(t *testing.T) {
	good := answer(t, plain(), held(t).f.Commit, 7, 3, plainDeal())
	for i, k := range []struct {
		change func(x *api.Tx)
		key    int
		want   api.Errno
	}{
		{func(x *api.Tx) {}, 1, api.OK},
		{func(x *api.Tx) { x.Op.Kind = api.OpAsk }, 1, api.ErrArg},
		{func(x *api.Tx) { x.Ins = append(x.Ins, api.In{}) }, 1, api.ErrArg},
		{func(x *api.Tx) { x.Ins, x.Op.Kind = nil, api.OpTake }, 1, api.ErrArg},
		{func(x *api.Tx) { x.Ins[0].Ref.At = 1 }, 1, api.ErrCoin},
		{func(x *api.Tx) { x.Ins[0].Ref.Tx[5] ^= 1 }, 1, api.ErrCoin},
		{func(x *api.Tx) { x.Ins[0].Way = 0 }, 1, api.ErrCoin},
		{func(x *api.Tx) { x.Ins[0].Pre[31] ^= 1 }, 1, api.ErrLock},
		{func(x *api.Tx) { x.Ins[0].Pre = nil }, 1, api.ErrLock},
		{func(x *api.Tx) {}, 2, api.ErrLock},
		{func(x *api.Tx) {}, 103, api.ErrLock},
		{func(x *api.Tx) { x.Outs[0].Amount, x.Outs[1].Amount = topAmount, 1 }, 1, api.ErrOver},
		{func(x *api.Tx) { x.Outs[0].Amount, x.Outs[1].Amount = 60, 1 }, 1, api.ErrAmount},
		{func(x *api.Tx) { x.Outs[0].Amount, x.Outs[1].Amount = 60, 0 }, 1, api.OK},
		{func(x *api.Tx) { x.Outs = nil }, 1, api.OK},
		{func(x *api.Tx) { x.Outs = []api.Out{lock.To(200, 60)} }, 1, api.OK},
	} {
		j := copiedTx(good)
		k.change(&j)
		x := held(t)
		x.cover(t, signedBy(j, k.key))
		isTold(t, fmt.Sprint("change ", i), x, k.want)
	}
	x := held(t)
	j := copiedTx(good)
	j.Outs[0].Amount--
	x.cover(t, j)
	isTold(t, "changed behind its sign", x, api.ErrLock)
}

// It must be the part of what came: not that of another state.
func Test17_3WhatAnswersAnotherState(t *testing.T) {
	x := held(t)
	x.cover(t, answer(t, plain(), commitment(t, plain(), 6, 60, 1), 6, 3, plainDeal()))
	isTold(t, "the state before", x, api.ErrCoin)
	x.cover(t, answer(t, plain(), x.f.Commit, 7, api.None, justice.Deal{}))
	isTold(t, "without a tower", x, api.OK)
	x.cover(t, answer(t, plain(), x.f.Commit, 7, 9, plainDeal()))
	isTold(t, "with the reward of another tower", x, api.OK)
}

func Test17_3SavedInTime(t *testing.T) {
	for when := 100; when <= 104; when++ {
		x := held(t)
		x.f.Taken, x.f.When = true, when
		isTold(t, fmt.Sprint("taken at ", when), x, api.ErrSaved)
		x.height = 0
		isTold(t, fmt.Sprint("early, and taken at ", when), x, api.ErrSaved)
	}
	for _, when := range []int{105, 106, 1000, 1 << 30} {
		x := held(t)
		x.f.Taken, x.f.When = true, when
		isTold(t, fmt.Sprint("taken at ", when), x, api.OK)
		x.height = 104
		isTold(t, fmt.Sprint("early, and taken at ", when), x, api.ErrEarly)
	}
	x := held(t)
	x.f.When = 102
	isTold(t, "not taken, whenever that was", x, api.OK)
}

func Test17_3EarlyInTheWindow(t *testing.T) {
	x := held(t)
	for height := 90; height <= 104; height++ {
		x.height = height
		isTold(t, fmt.Sprint("at ", height), x, api.ErrEarly)
	}
	for _, height := range []int{105, 106, 200, 1 << 30} {
		x.height = height
		isTold(t, fmt.Sprint("at ", height), x, api.OK)
	}
	for _, window := range []int{1, 5, 65535} {
		x = held(t)
		x.c.Window = window
		x.height = 100 + window
		isTold(t, fmt.Sprint("at the end of ", window), x, api.ErrEarly)
		x.height++
		isTold(t, fmt.Sprint("behind the end of ", window), x, api.OK)
	}
}

func Test17_3HeightsAndWindowsOfAnyNumber(t *testing.T) {
	x := held(t)
	all := append(slices.Clone(heights), farHeights...)
	for _, at := range []int{0, 100, -100, topHeight, -topHeight, math.MaxInt, math.MinInt} {
		for i, height := range all {
			for j, window := range windows {
				if (i+j)%3 != 0 { // each pair would take long
					continue
				}
				x.f.At, x.height, x.c.Window = at, height, window
				want := api.OK
				if isWithin(height, at, window) {
					want = api.ErrEarly
				}
				isTold(t, fmt.Sprint(at, " at ", height, " of ", window), x, want)
			}
		}
	}
}

// Where several errors apply, the first one is told.
func Test17_3ErrorsInOrder(t *testing.T) {
	const (
		wrongTower = 1 << iota
		wrongSign
		wrongHint
		wrongFacts
		wrongCover
		wrongAnswer
		saved
		early
	)
	wants := []api.Errno{api.ErrTower, api.ErrSign, api.ErrProof, api.ErrCoin, api.ErrForm, api.ErrLock, api.ErrSaved, api.ErrEarly}
	unsigned := answer(t, plain(), held(t).f.Commit, 7, 3, plainDeal())
	unsigned.Signs = nil
	client := commitment(t, plain(), 7, 60, 0)
	for bits := range 256 {
		x := held(t)
		if bits&wrongAnswer != 0 {
			x.cover(t, unsigned)
		}
		if bits&wrongCover != 0 {
			x.show(t, noise(20))
		}
		if bits&wrongHint != 0 {
			x.p.Receipt.Hint[0] ^= 1
			x.sign(t)
		}
		if bits&wrongFacts != 0 {
			x.f.Commit = client
		}
		if bits&wrongSign != 0 {
			x.root[0] ^= 1
		}
		if bits&wrongTower != 0 {
			x.tower++
		}
		x.f.Taken, x.f.When = bits&saved != 0, 104
		if bits&early != 0 {
			x.height = 104
		}
		isTold(t, fmt.Sprintf("errors %08b", bits), x, firstOf(bits, wants))
	}
}

// firstOf is the error of the lowest bit.
func firstOf(bits int, l []api.Errno) api.Errno {
	for i, e := range l {
		if bits>>i&1 != 0 {
			return e
		}
	}
	return api.OK
}
