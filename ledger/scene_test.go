package ledger_test

import (
	"testing"

	"bartizan/api"
	"bartizan/bond"
	"bartizan/commit"
	"bartizan/ledger"
	"bartizan/lock"
	"bartizan/tx"
)

// The places of a scene's first outs.
const (
	fundAt   = 0 // of a channel
	towerAt  = 1 // 300 of the tower 3
	otherAt  = 2 // 300 of the tower 4
	clientAt = 3 // 50 of the client
	peerAt   = 4 // 50 of the peer
)

// scene is a ledger, the sum of what came first, and a channel of the client 1 and the peer 2 that this funds.
type scene struct {
	l     *ledger.Ledger
	first api.Sum
	c     api.Channel
}

// staged is a scene in which nothing is locked.
func staged(t *testing.T) scene {
	t.Helper()
	c := plain()
	l, first := started(t, commit.Fund(c), lock.To(103, 300), lock.To(104, 300), lock.To(1, 50), lock.To(2, 50))
	c.Fund = at(first, fundAt)
	return scene{l: l, first: first, c: c}
}

// doing is a transaction that only does something, and that keys signed.
func doing(o api.Op, keys ...int) api.Tx {
	return tx.Signed(api.Tx{Op: o}, keys...)
}

// bondOp locks an amount of a tower, under its root.
func bondOp(t *testing.T, tower int, n int64) api.Op {
	return api.Op{Kind: api.OpBond, Tower: tower, Amount: n, Root: rootOf(t, tower)}
}

// holdOp holds for a channel.
func holdOp(tower int, c api.Channel) api.Op {
	return api.Op{Kind: api.OpHold, Tower: tower, Channel: c.Id, Data: bytesOf(c)}
}

// bonding spends a tower's coin, and locks an amount of it.
func (s scene) bonding(t *testing.T, tower int, n int64) api.Tx {
	x := spending(one(s.first, tower-2), lock.To(100+tower, 300-n))
	x.Op = bondOp(t, tower, n)
	return tx.Signed(x, 100+tower)
}

// bonded is a scene in which the towers 3 and 4 locked 250 and 150, at the height 1.
func bonded(t *testing.T) scene {
	t.Helper()
	s := staged(t)
	isDone(t, "3 locks", s.l, s.bonding(t, 3, 250), 1)
	isDone(t, "4 locks", s.l, s.bonding(t, 4, 150), 1)
	return s
}

// holding is a scene in which both hold for the channel, at the height 2.
func holding(t *testing.T) scene {
	t.Helper()
	s := bonded(t)
	for tower := 3; tower <= 4; tower++ {
		isDone(t, "holds", s.l, doing(holdOp(tower, s.c), 100+tower), 2)
	}
	return s
}

// cheated is a scene in which the peer's commitment of the state 7 came, at the height 10, in which it has 60; and that commitment.
func cheated(t *testing.T) (scene, api.Tx) {
	t.Helper()
	s := holding(t)
	x := commitment(t, s.c, 7, 60, 1)
	isDone(t, "the commitment", s.l, x, 10)
	return s, x
}

// proof is a proof of a tower that it signed for what takes the peer's part of a commitment of the state 7.
func (s scene) proof(t *testing.T, came api.Tx, tower int) api.Proof {
	t.Helper()
	return shown(t, s.c, came, answer(t, s.c, came, 7, tower), 7, tower)
}

// proveOp shows a proof against a tower.
func proveOp(t *testing.T, tower int, p api.Proof) api.Op {
	t.Helper()
	return api.Op{Kind: api.OpProve, Tower: tower, Channel: 1, Data: proofData(t, p)}
}

// proved is a scene in which a proof waits against the tower 3, since the height 15.
func proved(t *testing.T) (scene, api.Tx) {
	t.Helper()
	s, came := cheated(t)
	isDone(t, "the proof", s.l, doing(proveOp(t, 3, s.proof(t, came, 3)), 1), 15)
	return s, came
}

// settling pays outs of what the tower 3 held.
func settling(outs ...api.Out) api.Tx {
	return api.Tx{Op: api.Op{Kind: api.OpSettle, Tower: 3, Channel: 1}, Outs: outs}
}

// isTower holds what a tower has.
func isTower(t *testing.T, l *ledger.Ledger, tower int, want bond.Tower) {
	t.Helper()
	if got, ok := l.Board.Get(tower); !ok || got != want {
		t.Errorf("the tower %d has %v, %v, want %v", tower, got, ok, want)
	}
}

// isHeld holds what a tower holds for a channel.
func isHeld(t *testing.T, l *ledger.Ledger, tower, channel int, want bond.Hold) {
	t.Helper()
	if got, ok := l.Holds(tower, channel); !ok || got != want {
		t.Errorf("the tower %d holds %v, %v for %d, want %v", tower, got, ok, channel, want)
	}
}

// isNotHeld holds that a tower holds nothing for a channel.
func isNotHeld(t *testing.T, l *ledger.Ledger, tower, channel int) {
	t.Helper()
	if got, ok := l.Holds(tower, channel); ok {
		t.Errorf("the tower %d holds %v for %d", tower, got, channel)
	}
}

// wrongSigners are keys of which none is the one that must sign, in the scenes, and that one is not among.
func wrongSigners(key int) [][]int {
	l := [][]int{nil}
	var all []int
	for _, other := range []int{0, 1, 2, 3, 4, 100, 101, 103, 104, 255} {
		if other != key {
			l, all = append(l, []int{other}), append(all, other)
		}
	}
	return append(l, all)
}

// isSignedBy holds that an op is refused with ErrSign, whoever but a key signs it, and comes where that one alone does.
func isSignedBy(t *testing.T, what string, l *ledger.Ledger, x api.Tx, key, height int) {
	t.Helper()
	x.Signs = nil
	for _, keys := range wrongSigners(key) {
		isRefused(t, what, l, tx.Signed(x, keys...), height, api.ErrSign)
	}
	other := copiedTx(x)
	other.Op.Root[31] ^= 1
	for _, s := range []api.Sign{{Key: key}, tx.Signed(other, key).Signs[0]} {
		y := copiedTx(x)
		y.Signs = []api.Sign{s}
		isRefused(t, what+" of another sum", l, y, height, api.ErrSign)
	}
	isDone(t, what, l.Clone(), tx.Signed(x, key), height)
	isDone(t, what+", others, too", l.Clone(), tx.Signed(x, 0, key, 255), height)
}
