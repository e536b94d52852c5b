package chain

import (
	"bartizan/api"
	"bartizan/block"
	"bartizan/ledger"
	"bartizan/tx"
)

// Add puts a block behind the last one: all of its transactions come, in order; else why not, and at which place, and nothing is changed.
func (c *Chain) Add(b block.Block) (int, api.Errno) {
	if !c.given() {
		return 0, api.ErrArg
	}
	if !b.Right() {
		return 0, api.ErrForm
	}
	tip := c.Tip()
	if b.Ahead != tip.Sum() || b.Height != tip.Height+1 {
		return 0, api.ErrState
	}
	if at, e := apply(c.Clone(), b); e != api.OK {
		return at, e
	}
	apply(c.Ledger, b) // as it was tried, so that the ledger that is embedded stays the very one
	c.blocks = append(c.blocks, copied(b))
	return 0, api.OK
}

// apply lets a block's transactions come to a ledger, up to the first one that can't: which one that is, and why.
func apply(l *ledger.Ledger, b block.Block) (int, api.Errno) {
	for i, t := range b.Txs {
		if e := l.Apply(t, b.Height); e != api.OK {
			return i, e
		}
	}
	return 0, api.OK
}

// Mine makes a block of those of some transactions that can come, in order, and puts it behind the last one: which ones came.
func (c *Chain) Mine(txs ...api.Tx) ([]api.Sum, api.Errno) {
	if !c.given() {
		return nil, api.ErrArg
	}
	b, e := block.Make(c.Tip(), c.able(txs)...)
	if e != api.OK {
		return nil, e
	}
	if _, e := c.Add(b); e != api.OK {
		return nil, e
	}
	var ids []api.Sum
	for _, t := range b.Txs {
		ids = append(ids, tx.Sum(t))
	}
	return ids, api.OK
}

// able are those of some transactions that can come next, behind those of them ahead, as many as a block has at most.
func (c *Chain) able(txs []api.Tx) []api.Tx {
	var l []api.Tx
	trial, next := c.Clone(), c.Height()+1
	for _, t := range txs {
		if len(l) == block.MaxTxs {
			break
		}
		if trial.Apply(t, next) == api.OK {
			l = append(l, t)
		}
	}
	return l
}
