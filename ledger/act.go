package ledger

import (
	"slices"

	"bartizan/api"
	"bartizan/bond"
	"bartizan/justice"
	"bartizan/lock"
	"bartizan/proof"
	"bartizan/tx"
)

// act does with a board what the op of a transaction does: how much goes in, and how much comes out.
func (l *Ledger) act(b *bond.Board, t api.Tx, height int) (in, out int64, e api.Errno) {
	switch t.Op.Kind {
	case api.OpNone:
		return 0, 0, api.OK
	case api.OpBond, api.OpHold, api.OpAsk, api.OpTake:
		return actOfTower(b, t, height)
	}
	return l.actOfClient(b, t, height)
}

// signed tells whether a key signed a transaction.
func signed(t api.Tx, key int) bool {
	return slices.Contains(tx.Keys(t), key)
}

// actOfTower does what a tower does by itself.
func actOfTower(b *bond.Board, t api.Tx, height int) (in, out int64, e api.Errno) {
	o := t.Op
	if !signed(t, justice.Key(o.Tower)) {
		return 0, 0, api.ErrSign
	}
	switch o.Kind {
	case api.OpBond:
		return o.Amount, 0, b.Lock(o.Tower, o.Amount, o.Root)
	case api.OpHold:
		return 0, 0, hold(b, o)
	case api.OpAsk:
		return 0, 0, b.Ask(o.Tower, o.Amount, height)
	}
	out, e = b.Take(o.Tower, height)
	return 0, out, e
}

// hold holds for the channel that an op shows.
func hold(b *bond.Board, o api.Op) api.Errno {
	c, e := ReadChannel(o.Data)
	if e != api.OK {
		return e
	}
	if c.Id != o.Channel {
		return api.ErrArg
	}
	return b.Hold(o.Tower, c)
}

// actOfClient does what the client does with what a tower holds for its channel.
func (l *Ledger) actOfClient(b *bond.Board, t api.Tx, height int) (in, out int64, e api.Errno) {
	o := t.Op
	h, ok := b.Holds(o.Tower, o.Channel)
	if !ok {
		return 0, 0, api.ErrNone
	}
	if !signed(t, h.Channel.Client) {
		return 0, 0, api.ErrSign
	}
	switch o.Kind {
	case api.OpFree:
		return 0, 0, b.Let(o.Tower, o.Channel)
	case api.OpProve:
		return 0, 0, l.prove(b, o, h.Channel, height)
	}
	out, e = settle(b, t, h.Channel.Client, height)
	return 0, out, e
}

// prove lets a proof wait that holds against the tower.
func (l *Ledger) prove(b *bond.Board, o api.Op, c api.Channel, height int) api.Errno {
	p, e := proof.Get(o.Data)
	if e != api.OK {
		return e
	}
	f, ok := l.Facts(p.Commit)
	if !ok {
		return api.ErrCoin
	}
	tower, _ := b.Get(o.Tower)
	if e := proof.Check(p, o.Tower, c, tower.Root, f, height); e != api.OK {
		return e
	}
	return b.Prove(o.Tower, o.Channel, height, p.Commit)
}

// settle is what was held, if the first out pays just that to the client.
func settle(b *bond.Board, t api.Tx, client, height int) (int64, api.Errno) {
	n, e := b.Settle(t.Op.Tower, t.Op.Channel, height)
	if e != api.OK {
		return 0, e
	}
	if len(t.Outs) == 0 || !lock.Same(t.Outs[0], lock.To(client, n)) {
		return 0, api.ErrAmount
	}
	return n, api.OK
}
