package chain_test

import (
	"math"
	"reflect"
	"sync"
	"testing"

	"bartizan/api"
	"bartizan/block"
	"bartizan/chain"
	"bartizan/ledger"
	"bartizan/lock"
	"bartizan/tx"
)

// isDeep holds how deep a transaction is.
func isDeep(t *testing.T, c *chain.Chain, id api.Sum, want int) {
	t.Helper()
	if got := c.Deep(id); got != want {
		t.Errorf("at the height %d, %x is %d deep, want %d", c.Height(), id[:4], got, want)
	}
}

func Test20_3DeepFromItsOwnOn(t *testing.T) {
	c, first := rich(t)
	l := line(first, 1, 30)
	for height := range 16 {
		if height > 0 {
			two := l[2*height-2 : 2*height]
			isMined(t, "two", c, two, two...)
		}
		isDeep(t, c, first, height+1)
		for i, x := range l {
			own := i/2 + 1
			isDeep(t, c, tx.Sum(x), max(0, height-own+1))
		}
	}
}

func Test20_3DeepOfWhatDidNotCome(t *testing.T) {
	c, first := rich(t)
	x := pay(first, 1, 9)
	isDeep(t, c, tx.Sum(x), 0)
	isRefused(t, "a fault", c, laid(c.Tip(), x, api.Tx{}), 1, api.ErrArg)
	isDeep(t, c, tx.Sum(x), 0)
	isMined(t, "it", c, []api.Tx{x, pay(first, 1, 10)}, x)
	isDeep(t, c, tx.Sum(x), 1)
	isDeep(t, c, tx.Sum(pay(first, 1, 10)), 0)
	isDeep(t, c, api.Sum{}, 0)
	isDeep(t, c, full(), 0)
	tip := c.Tip()
	isDeep(t, c, tip.Sum(), 0)
	isDeep(t, c, tip.Root, 0)
	for bit := range 256 {
		isDeep(t, c, flipped(tx.Sum(x), bit), 0)
		isDeep(t, c, flipped(first, bit), 0)
	}
}

// Blocks of nothing count, too; a block's transactions are all as deep.
func Test20_3DeepByBlocks(t *testing.T) {
	c, first := rich(t)
	l := line(first, 1, topTxs)
	isAdded(t, "64", c, laid(c.Tip(), l...))
	for n := 1; n <= 20; n++ {
		for _, x := range l {
			isDeep(t, c, tx.Sum(x), n)
		}
		isDeep(t, c, first, n+1)
		isMined(t, "none", c, nil)
	}
}

// Who lets a transaction come by the ledger's own call may name any height: from one that there is not, no blocks are.
func Test20_3DeepIsNeverBelowNone(t *testing.T) {
	for _, height := range []int{1, 2, 1000, topHeight} {
		c, first := rich(t)
		x := pay(first, 1, 9)
		if e := c.Apply(x, height); e != api.OK {
			t.Fatal(e)
		}
		isDeep(t, c, tx.Sum(x), 0)
	}
}

// nobodys are chains that New did not give.
func nobodys(t *testing.T) []*chain.Chain {
	l, _, e := ledger.New(lock.To(1, 5))
	if e != api.OK {
		t.Fatal(e)
	}
	return []*chain.Chain{nil, {}, {Ledger: l}, {Ledger: &ledger.Ledger{}}}
}

func Test20_3NilAndNotGiven(t *testing.T) {
	_, first, _ := chain.New(lock.To(1, 5))
	for i, c := range nobodys(t) {
		if c.Height() != 0 || c.Tip() != (block.Head{}) || c.Deep(first) != 0 || c.Deep(api.Sum{}) != 0 {
			t.Errorf("%d: %d, %v, %d", i, c.Height(), c.Tip(), c.Deep(first))
		}
		for _, height := range []int{-1, 0, 1, 2, math.MinInt, math.MaxInt} {
			isNoHeight(t, c, height)
		}
		x := spending(at(first, 0), 0, 1)
		for _, b := range []block.Block{{}, laid(block.Head{}), laid(block.Head{}, x), laid(block.Head{Ahead: first, Root: joined(3)}, x), laid(block.Head{}, api.Tx{})} {
			if n, e := c.Add(b); n != 0 || e != api.ErrArg {
				t.Errorf("%d: %v at %d", i, e, n)
			}
		}
		for _, l := range [][]api.Tx{nil, {x}, {{}}} {
			if ids, e := c.Mine(l...); len(ids) != 0 || e != api.ErrArg {
				t.Errorf("%d: %v, %x", i, e, ids)
			}
		}
		if c != nil && c.Ledger != nil && len(c.Order()) > 1 {
			t.Errorf("%d: something came", i)
		}
	}
}

// Whatever somebody puts in the place of the ledger, calls end.
func Test20_1NoLedgerAnyMore(t *testing.T) {
	for _, l := range []*ledger.Ledger{nil, {}} {
		c, first := rich(t)
		c.Ledger = l
		c.Add(laid(c.Tip(), pay(first, 1, 9)))
		c.Add(laid(c.Tip()))
		c.Mine(pay(first, 1, 9))
		c.Deep(first)
		c.Block(c.Height())
	}
}

// Many who ask at the same time are told the same.
func Test20_3AskedByMany(t *testing.T) {
	c, first := rich(t)
	isMined(t, "filled", c, filledTxs(first), filledTxs(first)...)
	before := tell(c)
	var all sync.WaitGroup
	for range 8 {
		all.Go(func() {
			for range 30 {
				if !reflect.DeepEqual(tell(c), before) {
					t.Error("the chain tells other things")
				}
				b, _ := c.Block(1)
				spoilAll(b.Txs)
			}
		})
	}
	all.Wait()
}
