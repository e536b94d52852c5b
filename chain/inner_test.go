package chain

import (
	"testing"

	"bartizan/api"
	"bartizan/block"
	"bartizan/ledger"
	"bartizan/lock"
	"bartizan/tx"
)

// high is a chain whose last head is of a height that no test could mine up to, and a transaction that can come to it.
func high(t *testing.T, height int) (*Chain, api.Tx) {
	t.Helper()
	l, first, e := ledger.New(lock.To(1, 5))
	if e != api.OK {
		t.Fatal(e)
	}
	x := api.Tx{Ins: []api.In{{Ref: api.Ref{Tx: first}}}}
	return &Chain{Ledger: l, blocks: []block.Block{{}, {Head: block.Head{Height: height}}}}, tx.Signed(x, 1)
}

// No block is behind the greatest height: none is mined, with transactions or without, and nothing changes.
func Test20_3NoneBehindTheGreatestHeight(t *testing.T) {
	c, x := high(t, 1<<30)
	for _, l := range [][]api.Tx{nil, {x}, {{}}} {
		if ids, e := c.Mine(l...); ids != nil || e != api.ErrRange {
			t.Errorf("%v, %x", e, ids)
		}
	}
	b, e := block.Make(block.Head{Height: 1<<30 - 1}, x)
	if e != api.OK {
		t.Fatal(e)
	}
	b.Ahead = c.Tip().Sum()
	if n, e := c.Add(b); n != 0 || e != api.ErrState {
		t.Errorf("%v at %d", e, n)
	}
	b.Height++
	if n, e := c.Add(b); n != 0 || e != api.ErrForm {
		t.Errorf("%v at %d", e, n)
	}
	if c.Height() != 1<<30 || len(c.blocks) != 2 || len(c.Order()) != 1 {
		t.Errorf("the height is %d, and there came %d", c.Height(), len(c.Order()))
	}
}

func Test20_3UpToTheGreatestHeight(t *testing.T) {
	c, x := high(t, 1<<30-1)
	ids, e := c.Mine(api.Tx{}, x)
	if e != api.OK || len(ids) != 1 || ids[0] != tx.Sum(x) || c.Height() != 1<<30 {
		t.Errorf("%v, %x at %d", e, ids, c.Height())
	}
	if d, ok := c.Done(tx.Sum(x)); !ok || d.Height != 1<<30 {
		t.Errorf("it came at %d, %v", d.Height, ok)
	}
}
