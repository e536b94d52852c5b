package proof

import (
	"bartizan/api"
	"bartizan/appoint"
	"bartizan/commit"
	"bartizan/justice"
	"bartizan/receipt"
)

// peer is the owner of the commitments that towers watch for.
const peer = 1

// Facts is what a chain knows of a commitment: the transaction, when it came; and whether its owner's part was taken by the second way, and when.
type Facts struct {
	Commit api.Tx
	At     int
	Taken  bool
	When   int
}

// Saved tells whether the part was taken in time.
func (f Facts) Saved(c api.Channel) bool {
	return f.Taken && within(f.When, f.At, c.Window)
}

// within tells whether a height is at most so many above another one. Where the last such height is no int, it is above all of them, or below.
func within(height, at, window int) bool {
	last := at + window
	if window >= 0 && last < at {
		return true
	}
	if window < 0 && last > at {
		return false
	}
	return height <= last
}

// Check is why a proof does not hold against a tower with a root, for a channel, at a height, by what the chain knows.
func Check(p api.Proof, tower int, c api.Channel, root api.Sum, f Facts, height int) api.Errno {
	if e := checkReceipt(p, tower, c, root); e != api.OK {
		return e
	}
	if e := checkAnswer(p, c, f); e != api.OK {
		return e
	}
	if f.Saved(c) {
		return api.ErrSaved
	}
	if within(height, f.At, c.Window) {
		return api.ErrEarly
	}
	return api.OK
}

// checkReceipt is why the tower did not sign, for the channel, for what the proof shows.
func checkReceipt(p api.Proof, tower int, c api.Channel, root api.Sum) api.Errno {
	r := p.Receipt
	if r.Tower != tower || r.Channel != c.Id {
		return api.ErrTower
	}
	if !receipt.Verify(root, r, p.Sig) {
		return api.ErrSign
	}
	if r.Hint != appoint.Hint(p.Commit) || r.Blob != appoint.Mark(p.Blob) {
		return api.ErrProof
	}
	return api.OK
}

// checkAnswer is why what the proof covers would not have taken the part of the peer, whose commitment came.
func checkAnswer(p api.Proof, c api.Channel, f Facts) api.Errno {
	if commit.Owner(c, f.Commit) != peer || commit.Ref(f.Commit).Tx != p.Commit {
		return api.ErrCoin
	}
	j, e := appoint.Uncover(p.Commit, p.Blob)
	if e != api.OK {
		return e
	}
	return justice.Check(c, f.Commit, j)
}
