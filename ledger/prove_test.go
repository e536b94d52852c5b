package ledger_test

import (
	"fmt"
	"slices"
	"testing"

	"bartizan/api"
	"bartizan/bond"
	"bartizan/commit"
	"bartizan/lock"
	"bartizan/secret"
	"bartizan/tx"
)

func Test18_2ProveLetsAProofWait(t *testing.T) {
	s, came := cheated(t)
	isDone(t, "a proof", s.l, doing(proveOp(t, 3, s.proof(t, came, 3)), 1), 15)
	isHeld(t, s.l, 3, 1, bond.Hold{Channel: s.c, Amount: 100, Proved: true, At: 15, Commit: tx.Sum(came)})
	isHeld(t, s.l, 4, 1, bond.Hold{Channel: s.c, Amount: 100})
	isLeft(t, s.l, 400, 400, 0)
	isDone(t, "another tower's", s.l, doing(proveOp(t, 4, s.proof(t, came, 4)), 1), 100)
	isHeld(t, s.l, 4, 1, bond.Hold{Channel: s.c, Amount: 100, Proved: true, At: 100, Commit: tx.Sum(came)})
}

func Test18_2ProveIsTheClients(t *testing.T) {
	s, came := cheated(t)
	isSignedBy(t, "a proof", s.l, doing(proveOp(t, 3, s.proof(t, came, 3))), 1, 15)
}

// isNoProof holds the error of an op with a proof that the client signed, at a height.
func isNoProof(t *testing.T, what string, s scene, o api.Op, height int, want api.Errno) {
	t.Helper()
	isRefused(t, what, s.l, doing(o, 1), height, want)
	isRefused(t, what+", unsigned", s.l, doing(o, 2, 103), height, api.ErrSign)
}

func Test18_2ProvesErrors(t *testing.T) {
	s, came := cheated(t)
	good := proveOp(t, 3, s.proof(t, came, 3))
	for _, keys := range [][]int{nil, {1}} {
		for _, o := range []api.Op{{Kind: api.OpProve}, {Kind: api.OpProve, Tower: 5, Channel: 1, Data: good.Data}, {Kind: api.OpProve, Tower: 3, Channel: 2, Data: good.Data}} {
			isRefused(t, "nothing is held", s.l, doing(o, keys...), 15, api.ErrNone)
		}
	}
	o := good
	for _, n := range []int{0, 1, 71, 72, len(good.Data) - 1} {
		o.Data = good.Data[:n]
		isNoProof(t, fmt.Sprint("of ", n, " bytes"), s, o, 15, api.ErrShort)
	}
	o.Data = append(slices.Clone(good.Data), 0)
	isNoProof(t, "of a byte more", s, o, 15, api.ErrLong)
	o.Data = slices.Repeat([]byte{0x80}, 9)
	isNoProof(t, "of nine bytes", s, o, 15, api.ErrRange)
	o.Data = make([]byte, 35)
	isNoProof(t, "of no receipt", s, o, 15, api.ErrShort)
}

func Test18_2ProofsThatDoNotHold(t *testing.T) {
	s, came := cheated(t)
	good := s.proof(t, came, 3)
	noted := func(change func(p *api.Proof)) api.Op {
		p := good
		change(&p)
		return proveOp(t, 3, p)
	}
	isNoProof(t, "what did not come", s, noted(func(p *api.Proof) { p.Commit[0] ^= 1 }), 15, api.ErrCoin)
	isNoProof(t, "what did not come, of another tower", s, noted(func(p *api.Proof) { p.Commit[0] ^= 1; p.Receipt.Tower = 4 }), 15, api.ErrCoin)
	isNoProof(t, "of another tower", s, proveOp(t, 3, s.proof(t, came, 4)), 15, api.ErrTower)
	isNoProof(t, "of another channel", s, noted(func(p *api.Proof) { p.Receipt.Channel = 2 }), 15, api.ErrTower)
	isNoProof(t, "of another state", s, noted(func(p *api.Proof) { p.Receipt.State = 8 }), 15, api.ErrSign)
	isNoProof(t, "of another signature", s, noted(func(p *api.Proof) { p.Sig = p.Sig[1:] }), 15, api.ErrSign)
	isNoProof(t, "of another blob", s, noted(func(p *api.Proof) { p.Blob = p.Blob[1:] }), 15, api.ErrProof)
	isNoProof(t, "of what came first", s, noted(func(p *api.Proof) { p.Commit = s.first }), 15, api.ErrProof)
	first, _ := s.l.Done(s.first)
	isNoProof(t, "for what came first", s, proveOp(t, 3, shown(t, s.c, first.Tx, answer(t, s.c, came, 7, 3), 7, 3)), 15, api.ErrCoin)
	other, e := commit.Build(s.c, stateOf(s.c, 8, 60), 1)
	if e != api.OK {
		t.Fatal(e)
	}
	isNoProof(t, "for what answers another one", s, proveOp(t, 3, shown(t, s.c, came, answer(t, s.c, other, 8, 3), 7, 3)), 15, api.ErrCoin)
	isDone(t, "the one that holds", s.l, doing(noted(func(p *api.Proof) {}), 1), 15)
}

// A proof of a height is early until the window is over.
func Test18_2ProofsAreEarly(t *testing.T) {
	s, came := cheated(t)
	o := proveOp(t, 3, s.proof(t, came, 3))
	for _, height := range []int{0, 9, 10, 11, 13, 14} {
		isNoProof(t, fmt.Sprint("at ", height), s, o, height, api.ErrEarly)
	}
	for _, height := range []int{15, 16, 1000, topHeight} {
		c := s.l.Clone()
		isDone(t, fmt.Sprint("at ", height), c, doing(o, 1), height)
		isHeld(t, c, 3, 1, bond.Hold{Channel: s.c, Amount: 100, Proved: true, At: height, Commit: tx.Sum(came)})
	}
}

// Whoever takes the part, and by whatever: in time it was saved.
func Test18_2ProofsOfWhatWasSaved(t *testing.T) {
	for when := 10; when <= 17; when++ {
		s, came := cheated(t)
		o := proveOp(t, 3, s.proof(t, came, 3))
		pre := secret.Of(api.Sum{2}, 7)
		x := of(at(tx.Sum(came), 0), 1, pre[:])
		x.Outs = []api.Out{lock.To(1, 60)}
		isDone(t, fmt.Sprint("taken at ", when), s.l, tx.Signed(x, 1), when)
		if when <= 14 {
			isNoProof(t, fmt.Sprint("taken at ", when), s, o, 20, api.ErrSaved)
			isNoProof(t, fmt.Sprint("taken at ", when, ", early"), s, o, 14, api.ErrSaved)
			continue
		}
		isNoProof(t, fmt.Sprint("taken at ", when, ", early"), s, o, 14, api.ErrEarly)
		isDone(t, fmt.Sprint("taken at ", when), s.l, doing(o, 1), 20)
	}
}

// The owner's own way is not the one by which the part is saved.
func Test18_2ProofsOfWhatTheOwnerTook(t *testing.T) {
	s, came := cheated(t)
	isDone(t, "the owner's own", s.l, tx.Signed(of(at(tx.Sum(came), 0), 0, nil), 2), 16)
	isDone(t, "a proof", s.l, doing(proveOp(t, 3, s.proof(t, came, 3)), 1), 17)
}

// The other part of a commitment is not the one that is saved.
func Test18_2ProofsOfWhatTheVictimTook(t *testing.T) {
	s, came := cheated(t)
	isDone(t, "the other part", s.l, tx.Signed(of(at(tx.Sum(came), 1), 0, nil), 1), 11)
	isDone(t, "a proof", s.l, doing(proveOp(t, 3, s.proof(t, came, 3)), 1), 15)
}

// Of the client's own commitment nothing is shown.
func Test18_2ProofsOfTheClientsCommitment(t *testing.T) {
	s := holding(t)
	x := commitment(t, s.c, 7, 60, 0)
	isDone(t, "the client's", s.l, x, 10)
	peers := commitment(t, s.c, 7, 60, 1)
	p := shown(t, s.c, x, answer(t, s.c, peers, 7, 3), 7, 3)
	isNoProof(t, "of the client's", s, proveOp(t, 3, p), 15, api.ErrCoin)
}

// It is the channel that is held that counts, and the root under which was locked.
func Test18_2ProofsGoByWhatIsHeld(t *testing.T) {
	for i, change := range []struct {
		of   func(c *api.Channel)
		root byte
		want api.Errno
	}{
		{func(c *api.Channel) { c.Window = 5 }, 3, api.ErrEarly},
		{func(c *api.Channel) { c.Window = 3 }, 3, api.OK},
		{func(c *api.Channel) { c.Wait = 7 }, 3, api.ErrCoin},
		{func(c *api.Channel) { c.Peer = 9 }, 3, api.ErrCoin},
		{func(c *api.Channel) { c.Fund.At = 1 }, 3, api.ErrCoin},
		{func(c *api.Channel) {}, 4, api.ErrSign},
		{func(c *api.Channel) { c.Cap = 99 }, 3, api.OK},
	} {
		s := staged(t)
		x := spending(one(s.first, towerAt))
		x.Op = api.Op{Kind: api.OpBond, Tower: 3, Amount: 300, Root: rootOf(t, int(change.root))}
		isDone(t, "locks", s.l, tx.Signed(x, 103), 1)
		c := s.c
		change.of(&c)
		isDone(t, "holds", s.l, doing(holdOp(3, c), 103), 2)
		came := commitment(t, s.c, 7, 60, 1)
		isDone(t, "the commitment", s.l, came, 10)
		o := proveOp(t, 3, s.proof(t, came, 3))
		if change.want == api.OK {
			isDone(t, fmt.Sprint("held ", i), s.l, doing(o, 1), 15)
			continue
		}
		isNoProof(t, fmt.Sprint("held ", i), s, o, 15, change.want)
	}
}

func Test18_2ProofsWaitOnce(t *testing.T) {
	s, came := proved(t)
	o := proveOp(t, 3, s.proof(t, came, 3))
	isRefused(t, "the very one", s.l, doing(o, 1), 16, api.ErrTwice)
	o.Amount = 1
	isNoProof(t, "again", s, o, 16, api.ErrState)
	isNoProof(t, "again, early", s, o, 14, api.ErrEarly)
	o.Data = nil
	isNoProof(t, "again, of nothing", s, o, 16, api.ErrShort)
}

func Test18_2SettlePaysTheClient(t *testing.T) {
	s, _ := proved(t)
	for _, height := range []int{18, 19, topHeight} {
		c := scene{s.l.Clone(), s.first, s.c}
		id := isDone(t, fmt.Sprint("at ", height), c.l, tx.Signed(settling(lock.To(1, 100)), 1), height)
		isCoin(t, c.l, at(id, 0), lock.To(1, 100), height)
		isNotHeld(t, c.l, 3, 1)
		isTower(t, c.l, 3, bond.Tower{Root: rootOf(t, 3), Locked: 150})
		isTower(t, c.l, 4, bond.Tower{Root: rootOf(t, 4), Locked: 150})
		isLeft(t, c.l, 500, 300, 0)
		isRefused(t, "again", c.l, tx.Signed(settling(lock.To(1, 100), lock.To(1, 0)), 1), height, api.ErrNone)
	}
}

func Test18_2SettleIsTheClients(t *testing.T) {
	s, _ := proved(t)
	isSignedBy(t, "settled", s.l, settling(lock.To(1, 100)), 1, 18)
}

func Test18_2SettlesErrors(t *testing.T) {
	s, _ := proved(t)
	for _, keys := range [][]int{nil, {1}, {103}} {
		x := settling(lock.To(1, 100))
		x.Op.Tower = 5
		isRefused(t, "no such tower", s.l, tx.Signed(x, keys...), 18, api.ErrNone)
		x = settling(lock.To(1, 100))
		x.Op.Channel = 2
		isRefused(t, "no such channel", s.l, tx.Signed(x, keys...), 18, api.ErrNone)
	}
	x := settling(lock.To(1, 100))
	x.Op.Tower = 4
	isRefused(t, "no proof waits", s.l, tx.Signed(x, 1), 18, api.ErrNone)
	isRefused(t, "no proof waits, unsigned", s.l, x, 18, api.ErrSign)
	x.Outs = nil
	isRefused(t, "no proof waits, no out", s.l, tx.Signed(x, 1), 18, api.ErrNone)
	for _, height := range []int{0, 14, 15, 17} {
		isRefused(t, fmt.Sprint("at ", height), s.l, tx.Signed(settling(lock.To(1, 100)), 1), height, api.ErrEarly)
		isRefused(t, fmt.Sprint("no out at ", height), s.l, tx.Signed(settling(), 1), height, api.ErrEarly)
	}
}

func Test18_2SettlesFirstOut(t *testing.T) {
	s, _ := proved(t)
	client := lock.To(1, 100)
	twice := api.Out{Amount: 100, Ways: append(slices.Clone(client.Ways), client.Ways...)}
	waits := copiedOut(client)
	waits.Ways[0].Wait = 1
	for i, outs := range [][]api.Out{
		nil,
		{lock.To(1, 99)},
		{lock.To(1, 101)},
		{lock.To(1, 0)},
		{lock.To(2, 100)},
		{lock.To(103, 100)},
		{lock.To(1, 99), lock.To(1, 1)},
		{lock.To(1, 0), client},
		{lock.To(2, 0), client},
		{twice},
		{waits},
		{{Amount: 100, Ways: []api.Way{{}}}},
		{{Amount: 100, Ways: []api.Way{{Keys: []int{1, 2}}}}},
		{{Amount: 100, Ways: []api.Way{{Keys: []int{1}, After: 1}}}},
		{{Amount: 100, Ways: []api.Way{{Keys: []int{1}, Hash: api.Sum{1}}}}},
	} {
		isRefused(t, fmt.Sprint("outs ", i), s.l, tx.Signed(settling(outs...), 1), 18, api.ErrAmount)
	}
	more := settling(client, lock.To(2, 0))
	isDone(t, "and one of nothing", s.l.Clone(), tx.Signed(more, 1), 18)
	isRefused(t, "and one", s.l, tx.Signed(settling(client, lock.To(1, 1)), 1), 18, api.ErrAmount)
	paid := settling(client, lock.To(2, 50))
	paid.Ins = []api.In{{Ref: at(s.first, clientAt)}}
	isDone(t, "and one that is paid", s.l.Clone(), tx.Signed(paid, 1), 18)
	paid.Ins = []api.In{{Ref: at(s.first, peerAt)}}
	isRefused(t, "of another one's coin", s.l, tx.Signed(paid, 1), 18, api.ErrLock)
}

// What is paid is what was held of the channel, to the client of that one.
func Test18_2SettleOfTheChannelThatIsHeld(t *testing.T) {
	s := bonded(t)
	c := s.c
	c.Cap = 77
	isDone(t, "holds", s.l, doing(holdOp(3, c), 103), 2)
	came := commitment(t, s.c, 7, 60, 1)
	isDone(t, "the commitment", s.l, came, 10)
	isDone(t, "the proof", s.l, doing(proveOp(t, 3, s.proof(t, came, 3)), 1), 15)
	isRefused(t, "100", s.l, tx.Signed(settling(lock.To(1, 100)), 1), 18, api.ErrAmount)
	isDone(t, "77", s.l, tx.Signed(settling(lock.To(1, 77)), 1), 18)
	isTower(t, s.l, 3, bond.Tower{Root: rootOf(t, 3), Locked: 173})
}

// A whole play: both are hired, the peer cheats, nobody takes its part, and both pay for it.
func Test18_2WholePlay(t *testing.T) {
	s, came := proved(t)
	isDone(t, "the other one's proof", s.l, doing(proveOp(t, 4, s.proof(t, came, 4)), 1), 15)
	isDone(t, "3 pays", s.l, tx.Signed(settling(lock.To(1, 100)), 1), 18)
	x := settling(lock.To(1, 100))
	x.Op.Tower = 4
	isDone(t, "4 pays", s.l, tx.Signed(x, 1), 18)
	isDone(t, "the peer has its part", s.l, tx.Signed(of(at(tx.Sum(came), 0), 0, nil), 2), 16)
	isDone(t, "3 asks for the rest", s.l, doing(askOp(3, 150), 103), 19)
	isDone(t, "and takes it", s.l, tx.Signed(api.Tx{Op: takeOp(3), Outs: []api.Out{lock.To(103, 150)}}, 103), 31)
	isTower(t, s.l, 3, bond.Tower{Root: rootOf(t, 3)})
	isTower(t, s.l, 4, bond.Tower{Root: rootOf(t, 4), Locked: 50})
	if s.l.Of(1) != 290 || s.l.Of(103) != 200 || s.l.Fees() != 60 {
		t.Errorf("there are %d, %d and %d", s.l.Of(1), s.l.Of(103), s.l.Fees())
	}
}
