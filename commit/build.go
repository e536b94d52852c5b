package commit

import (
	"slices"

	"bartizan/api"
	"bartizan/lock"
	"bartizan/tx"
)

// The owners of commitments.
const (
	client = 0
	peer   = 1
)

// Fund is the out that funds a channel.
func Fund(c api.Channel) api.Out {
	keys := []int{min(c.Client, c.Peer), max(c.Client, c.Peer)}
	return api.Out{Amount: c.Cap, Ways: []api.Way{{Keys: keys}}}
}

// Build is the commitment of a state that its owner (0: the client, 1: the peer) may close with: first its own part, that it waits for, and that the other one may take, if it has the secret; then the other one's.
func Build(c api.Channel, s State, owner int) (api.Tx, api.Errno) {
	if !Right(c, s) || owner != client && owner != peer {
		return api.Tx{}, api.ErrArg
	}
	amounts := [...]int64{client: s.Client, peer: s.Peer}
	l := outs(c, owner, amounts[owner], amounts[otherOf(owner)], s.Hashes[owner])
	return api.Tx{Ins: spendFund(c), Outs: l}, api.OK
}

// otherOf is the other one than an owner.
func otherOf(owner int) int {
	return client + peer - owner
}

// spendFund is the one in of what closes a channel.
func spendFund(c api.Channel) []api.In {
	return []api.In{{Ref: c.Fund}}
}

// outs are those of an owner's commitment: its own part, and the other one's.
func outs(c api.Channel, owner int, own, rest int64, hash api.Sum) []api.Out {
	keys := [...]int{client: c.Client, peer: c.Peer}
	other := keys[otherOf(owner)]
	part := api.Out{Amount: own, Ways: []api.Way{
		{Keys: []int{keys[owner]}, Wait: c.Wait},
		{Keys: []int{other}, Hash: hash},
	}}
	return []api.Out{part, lock.To(other, rest)}
}

// Owner is whose commitment a transaction is: 0, 1; None: it is none of the channel.
func Owner(c api.Channel, t api.Tx) int {
	if !rightKeys(c) || t.Op.Kind != api.OpNone || len(t.Ins) != 1 || t.Ins[0].Ref != c.Fund {
		return api.None
	}
	for _, owner := range [...]int{client, peer} {
		if hasOuts(c, t.Outs, owner) {
			return owner
		}
	}
	return api.None
}

// hasOuts tells whether outs are those of an owner's commitment, of whatever amounts, and of a hash that is not zero.
func hasOuts(c api.Channel, l []api.Out, owner int) bool {
	if len(l) != 2 || len(l[0].Ways) != 2 {
		return false
	}
	hash := l[0].Ways[1].Hash
	want := outs(c, owner, l[0].Amount, l[1].Amount, hash)
	return hash != api.Sum{} && slices.EqualFunc(l, want, lock.Same)
}

// Close is the transaction by which both close in peace.
func Close(c api.Channel, s State) (api.Tx, api.Errno) {
	if !Right(c, s) {
		return api.Tx{}, api.ErrArg
	}
	l := []api.Out{lock.To(c.Client, s.Client), lock.To(c.Peer, s.Peer)}
	return api.Tx{Ins: spendFund(c), Outs: l}, api.OK
}

// Ref is where a commitment's own part is.
func Ref(t api.Tx) api.Ref {
	return api.Ref{Tx: tx.Sum(t), At: 0}
}
