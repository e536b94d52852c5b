package ledger

import (
	"bartizan/api"
	"bartizan/coin"
	"bartizan/lock"
	"bartizan/tx"
)

// Apply lets a transaction come at a height; else why not, and nothing is changed.
func (l *Ledger) Apply(t api.Tx, height int) api.Errno {
	if !l.given() || !tx.Right(t) || height < 0 || height > api.MaxHeight {
		return api.ErrArg
	}
	id := tx.Sum(t)
	if _, twice := l.done[id]; twice {
		return api.ErrTwice
	}
	fee, e := l.left(t, height)
	if e != api.OK {
		return e
	}
	l.act(l.Board, t, height) // as it was tried
	l.come(id, t, height)
	l.fees += fee
	return api.OK
}

// left is what a transaction leaves to miners. Its op is tried on a clone of the board, since the amounts that come of it may be refused.
func (l *Ledger) left(t api.Tx, height int) (int64, api.Errno) {
	has, e := l.brought(t, height)
	if e != api.OK {
		return 0, e
	}
	in, out, e := l.act(l.Board.Clone(), t, height)
	if e != api.OK {
		return 0, e
	}
	if has, e = coin.Add(has, out); e != api.OK {
		return 0, e
	}
	return coin.Sub(has, append(amounts(t.Outs), in)...)
}

// brought is what the ins of a transaction come to.
func (l *Ledger) brought(t api.Tx, height int) (int64, api.Errno) {
	var all int64
	keys := tx.Keys(t)
	for _, in := range t.Ins {
		n, e := l.opened(in, keys, height)
		if e != api.OK {
			return 0, e
		}
		if all, e = coin.Add(all, n); e != api.OK {
			return 0, e
		}
	}
	return all, api.OK
}

// opened is how much an in spends, if its way is open to those who signed.
func (l *Ledger) opened(in api.In, keys []int, height int) (int64, api.Errno) {
	c, ok := l.View.Get(in.Ref)
	if !ok {
		return 0, api.ErrCoin
	}
	try := lock.Try{Keys: keys, Pre: in.Pre, Height: height, Age: height - c.Height}
	if in.Way >= len(c.Ways) || !lock.Opens(c.Ways[in.Way], try) {
		return 0, api.ErrLock
	}
	return c.Amount, api.OK
}

// amounts are the amounts of outs.
func amounts(l []api.Out) []int64 {
	var all []int64
	for _, o := range l {
		all = append(all, o.Amount)
	}
	return all
}

// come lets come what was found right: it spends its ins, and its outs are coins.
func (l *Ledger) come(id api.Sum, t api.Tx, height int) {
	for _, in := range t.Ins {
		l.View.Take(in.Ref)
		l.spent[in.Ref] = Spend{By: id, Way: in.Way, Height: height}
	}
	for i, o := range t.Outs {
		l.Put(api.Ref{Tx: id, At: i}, o, height)
	}
	l.done[id] = Done{Tx: copied(t), Height: height}
	l.order = append(l.order, id)
}
