package chain_test

import (
	"fmt"
	"math"
	"reflect"
	"slices"
	"testing"

	"bartizan/api"
	"bartizan/block"
	"bartizan/chain"
	"bartizan/ledger"
	"bartizan/lock"
	"bartizan/tx"
)

func Test20_2AddedIsTheLastOne(t *testing.T) {
	c, first := rich(t)
	all := pays(first, topList)
	isAdded(t, "of two", c, laid(c.Tip(), all[0], all[1]))
	isAdded(t, "of none", c, laid(c.Tip()))
	isAdded(t, "of three", c, laid(c.Tip(), all[5], all[3], all[4]))
	if c.Fees() != 50 || c.Height() != 3 || c.Of(100) != 990 || c.Of(1) != 0 {
		t.Errorf("the fees are %d, the height %d", c.Fees(), c.Height())
	}
	if s, ok := c.Spent(at(first, 0)); !ok || s != (ledger.Spend{By: tx.Sum(all[0]), Height: 1}) {
		t.Errorf("it was spent by %v, %v", s, ok)
	}
	if s, ok := c.Spent(at(first, 5)); !ok || s != (ledger.Spend{By: tx.Sum(all[5]), Height: 3}) {
		t.Errorf("it was spent by %v, %v", s, ok)
	}
	isAdded(t, "made", c, made(t, c.Tip(), all[6]))
}

// made is a block that block makes.
func made(t *testing.T, ahead block.Head, l ...api.Tx) block.Block {
	t.Helper()
	b, e := block.Make(ahead, l...)
	if e != api.OK {
		t.Fatal(e)
	}
	return b
}

func Test20_2AddOfEachLength(t *testing.T) {
	for n := range topTxs + 1 {
		c, first := rich(t)
		isAdded(t, fmt.Sprint("of ", n), c, laid(c.Tip(), line(first, 1, n)...))
	}
}

// wrongForms are blocks that are not right, by one of transactions that is.
func wrongForms(ahead block.Head, l ...api.Tx) map[string]block.Block {
	forms := map[string]block.Block{}
	for _, many := range []int{-1, len(l) - 1, len(l) + 1, 0, topTxs + 1, len(l) + 1<<32, math.MinInt, math.MaxInt} {
		b := laid(ahead, l...)
		b.Many = many
		forms[fmt.Sprint("many ", many)] = b
	}
	for _, height := range []int{-1, math.MinInt, topHeight + 1, ahead.Height + 1 + 1<<32, math.MaxInt} {
		b := laid(ahead, l...)
		b.Height = height
		forms[fmt.Sprint("height ", height)] = b
	}
	for bit := range 256 {
		b := laid(ahead, l...)
		b.Root = flipped(b.Root, bit)
		forms[fmt.Sprint("root ", bit)] = b
	}
	for what, root := range map[string]api.Sum{"zero": {}, "none": joined(3), "full": full(), "turned": rootOf(idsOf([]api.Tx{l[1], l[0]}))} {
		b := laid(ahead, l...)
		b.Root = root
		forms["root "+what] = b
	}
	for what, txs := range map[string][]api.Tx{"none": nil, "one": l[:1], "turned": {l[1], l[0]}, "twice": {l[0], l[1], l[1]}} {
		b := laid(ahead, l...)
		b.Txs = txs
		forms["transactions "+what] = b
	}
	forms["nothing at all"] = block.Block{}
	return forms
}

func Test20_2NotRight(t *testing.T) {
	c, first := rich(t)
	isAdded(t, "ahead", c, laid(c.Tip(), pay(first, 3, 9)))
	l := pays(first, 2)
	for what, b := range wrongForms(c.Tip(), l...) {
		isRefused(t, what, c, b, 0, api.ErrForm)
	}
	long := laid(c.Tip(), line(first, 1, topTxs+1)...)
	isRefused(t, "65", c, long, 0, api.ErrForm)
	isRefused(t, "very many", c, laid(c.Tip(), slices.Repeat(l, 500)...), 0, api.ErrForm)
	isAdded(t, "what is right", c, laid(c.Tip(), l...))
}

// What is not right is told ahead of where it stands, and of its transactions.
func Test20_2NotRightIsToldFirst(t *testing.T) {
	c, first := rich(t)
	wrong := []api.Tx{{}, tx.Signed(pay(first, 1, 5), 9)}
	for what, b := range wrongForms(c.Tip(), wrong...) {
		isRefused(t, what+", wrong", c, b, 0, api.ErrForm)
	}
	for what, b := range wrongForms(block.Head{Height: 7}, wrong...) {
		isRefused(t, what+", elsewhere", c, b, 0, api.ErrForm)
	}
}

func Test20_2NotBehindTheLastHead(t *testing.T) {
	c, first := rich(t)
	isAdded(t, "ahead", c, laid(c.Tip(), pay(first, 3, 9)))
	b := laid(c.Tip(), pay(first, 1, 9))
	for bit := range 256 {
		other := copiedBlock(b)
		other.Ahead = flipped(b.Ahead, bit)
		isRefused(t, fmt.Sprint("the bit ", bit), c, other, 0, api.ErrState)
	}
	low, _ := c.Head(0)
	for what, ahead := range map[string]api.Sum{"zero": {}, "full": full(), "the first transaction": first, "what is ahead of the last one": c.Tip().Ahead, "the first head": headSum(low), "its root": c.Tip().Root, "its own": headSum(b.Head)} {
		other := copiedBlock(b)
		other.Ahead = ahead
		isRefused(t, what, c, other, 0, api.ErrState)
	}
	for what, h := range map[string]block.Head{
		"another root": {Ahead: c.Tip().Ahead, Height: 1, Root: joined(3), Many: 1},
		"another many": {Ahead: c.Tip().Ahead, Height: 1, Root: c.Tip().Root, Many: 2},
		"another one":  {Ahead: api.Sum{1}, Height: 1, Root: c.Tip().Root, Many: 1},
	} {
		isRefused(t, what, c, laid(h, pay(first, 1, 9)), 0, api.ErrState)
	}
	isAdded(t, "behind it", c, b)
}

func Test20_2NotOfTheNextHeight(t *testing.T) {
	c, first := rich(t)
	for n := range 4 {
		b := laid(c.Tip(), pay(first, n+1, 9))
		for _, height := range []int{0, 1, 2, 3, 4, 5, 6, 7, 255, 256, 257, 1 << 20, topHeight - 1, topHeight} {
			if height == c.Height()+1 {
				continue
			}
			other := copiedBlock(b)
			other.Height = height
			isRefused(t, fmt.Sprint("the height ", height), c, other, 0, api.ErrState)
		}
		isAdded(t, "the next height", c, b)
	}
}

// A block stands once: twice it is not behind the last head any more; nor is one beside it.
func Test20_2NotTwiceAndNotBeside(t *testing.T) {
	c, first := rich(t)
	low := c.Tip()
	b, beside := laid(low, pay(first, 1, 9)), laid(low, pay(first, 2, 9))
	isAdded(t, "once", c, b)
	isRefused(t, "twice", c, b, 0, api.ErrState)
	isRefused(t, "beside", c, beside, 0, api.ErrState)
	isRefused(t, "beside, of none", c, laid(low), 0, api.ErrState)
	none := laid(c.Tip())
	isAdded(t, "of none", c, none)
	isRefused(t, "of none, twice", c, none, 0, api.ErrState)
	isRefused(t, "the first one again", c, b, 0, api.ErrState)
}

// Where it stands is told ahead of its transactions.
func Test20_2StateIsToldAheadOfTransactions(t *testing.T) {
	c, first := rich(t)
	for _, l := range [][]api.Tx{{{}}, {pay(first, 1, 9), pay(first, 1, 9)}, {tx.Signed(pay(first, 1, 9)), {}}} {
		b := laid(c.Tip(), l...)
		b.Ahead[0] ^= 1
		isRefused(t, "ahead", c, b, 0, api.ErrState)
		b = laid(c.Tip(), l...)
		b.Height = 2
		isRefused(t, "height", c, b, 0, api.ErrState)
	}
}

// fault is a transaction that can't come behind rich's outs and three payments of them, and why.
type fault struct {
	what string
	x    api.Tx
	want api.Errno
}

// faults are such, of each error of the ledger's own, and some of those below.
func faults(first api.Sum) []fault {
	unsigned := pay(first, 7, 9)
	unsigned.Signs = nil
	doing := func(o api.Op, keys ...int) api.Tx { return tx.Signed(api.Tx{Op: o}, keys...) }
	locks := spending(at(first, 6), 0, 7)
	locks.Op = api.Op{Kind: api.OpBond, Tower: 3, Amount: 1001, Root: api.Sum{1}}
	return []fault{
		{"nothing at all", api.Tx{}, api.ErrArg},
		{"a place below 0", spending(at(first, -1), 0, 7), api.ErrArg},
		{"an out that may not be", spending(at(first, 6), 0, 7, lock.To(256, 1)), api.ErrArg},
		{"what came", pay(first, 1, 100), api.ErrTwice},
		{"what came, unsigned", api.Tx{Ins: pay(first, 1, 100).Ins, Outs: pay(first, 1, 100).Outs}, api.ErrTwice},
		{"what is spent", pay(first, 1, 9), api.ErrCoin},
		{"what never was", spending(at(api.Sum{1}, 0), 0, 7), api.ErrCoin},
		{"signed by nobody", unsigned, api.ErrLock},
		{"signed by another one", spending(at(first, 6), 0, 8, lock.To(9, 990)), api.ErrLock},
		{"no such way", spending(at(first, 6), 1, 7, lock.To(9, 990)), api.ErrLock},
		{"more than there is", spending(at(first, 6), 0, 7, lock.To(9, 1001)), api.ErrAmount},
		{"not the tower's", doing(api.Op{Kind: api.OpAsk, Tower: 3, Amount: 1}, 7), api.ErrSign},
		{"no such tower", doing(api.Op{Kind: api.OpAsk, Tower: 3, Amount: 1}, 103), api.ErrTower},
		{"no channel", doing(api.Op{Kind: api.OpHold, Tower: 3}, 103), api.ErrShort},
		{"no hold", doing(api.Op{Kind: api.OpFree, Tower: 3, Channel: 1}, 1), api.ErrNone},
		{"more than it has", tx.Signed(locks, 7, 103), api.ErrAmount},
	}
}

func Test20_2WhichOneCanNotCome(t *testing.T) {
	c, first := rich(t)
	all := pays(first, 6)
	isAdded(t, "ahead", c, laid(c.Tip(), all[:3]...))
	good := all[3:]
	for _, f := range faults(first) {
		for place := range len(good) + 1 {
			what := fmt.Sprint(f.what, " at ", place)
			isRefused(t, what, c, laid(c.Tip(), slices.Insert(slices.Clone(good), place, f.x)...), place, f.want)
		}
		isRefused(t, f.what+" alone", c, laid(c.Tip(), f.x), 0, f.want)
	}
	isAdded(t, "without a fault", c, laid(c.Tip(), good...))
}

func Test20_2TheFirstOneOfSeveral(t *testing.T) {
	c, first := rich(t)
	isAdded(t, "ahead", c, laid(c.Tip(), pays(first, 3)...))
	good := pay(first, 5, 9)
	l := faults(first)
	for i, f := range l {
		for j, g := range l {
			if i == j {
				continue
			}
			isRefused(t, f.what+", then "+g.what, c, laid(c.Tip(), f.x, g.x), 0, f.want)
			isRefused(t, f.what+", then "+g.what+", behind a good one", c, laid(c.Tip(), good, f.x, g.x), 1, f.want)
		}
	}
}

func Test20_2TheLastOneOf64(t *testing.T) {
	c, first := rich(t)
	l := line(first, 1, topTxs)
	wrong := copiedTxs(l)
	wrong[topTxs-1].Signs = nil
	isRefused(t, "the last one", c, laid(c.Tip(), wrong...), topTxs-1, api.ErrLock)
	isAdded(t, "all", c, laid(c.Tip(), l...))
}

func Test20_2InTheirOrder(t *testing.T) {
	c, first := rich(t)
	l := line(first, 1, 3)
	isRefused(t, "turned", c, laid(c.Tip(), l[1], l[0], l[2]), 0, api.ErrCoin)
	isRefused(t, "the last two turned", c, laid(c.Tip(), l[0], l[2], l[1]), 1, api.ErrCoin)
	isRefused(t, "one lacks", c, laid(c.Tip(), l[0], l[2]), 1, api.ErrCoin)
	isRefused(t, "one twice", c, laid(c.Tip(), l[0], l[1], l[0]), 2, api.ErrTwice)
	isRefused(t, "another one of the same", c, laid(c.Tip(), l[0], l[1], pay(first, 1, 5)), 2, api.ErrCoin)
	isAdded(t, "in order", c, laid(c.Tip(), l...))
}

// A block's transactions come at its height: a coin may be as old, and a height as great, as a way asks for, or one less.
func Test20_2AtItsHeight(t *testing.T) {
	c, first := started(t, api.Out{Amount: 50, Ways: []api.Way{{Keys: []int{1}, After: 3}}}, api.Out{Amount: 60, Ways: []api.Way{{Keys: []int{1}, Wait: 5}}}, lock.To(1, 70))
	late := spending(at(first, 0), 0, 1, lock.To(2, 50))
	old := spending(at(first, 1), 0, 1, lock.To(2, 60))
	coin := spending(at(first, 2), 0, 1, api.Out{Amount: 70, Ways: []api.Way{{Keys: []int{1}, Wait: 2}}})
	young := spending(at(tx.Sum(coin), 0), 0, 1)
	came := map[int][]api.Tx{3: {late}, 5: {old}, 4: {coin}, 6: {young}}
	for height := 1; height < 8; height++ {
		for want, l := range came {
			if height < want {
				e := api.ErrLock
				if want == 6 && height < 5 {
					e = api.ErrCoin
				}
				if want != 4 {
					isRefused(t, fmt.Sprint("of ", want, " at ", height), c, laid(c.Tip(), l...), 0, e)
				}
			}
		}
		isAdded(t, fmt.Sprint("at ", height), c, laid(c.Tip(), came[height]...))
	}
	if s, ok := c.Spent(at(tx.Sum(coin), 0)); !ok || s.Height != 6 {
		t.Errorf("it was spent by %v, %v", s, ok)
	}
}

// Bonds are in a block as payments are; what they come to is undone, where a later transaction can't come.
func Test20_2BondsInABlock(t *testing.T) {
	s := hired(t)
	c := s.c
	isRefused(t, "locks, and a fault", c, laid(c.Tip(), s.locks, api.Tx{}), 1, api.ErrArg)
	isRefused(t, "holds too early", c, laid(c.Tip(), s.holds, s.locks), 0, api.ErrTower)
	isAdded(t, "locks and holds", c, laid(c.Tip(), s.locks, s.holds))
	if c.Free(3) != 50 || c.Held(3) != 100 || c.Board.Total() != 150 || !slices.Equal(c.Towers(), []int{3}) {
		t.Errorf("the tower has %d free, and holds %d", c.Free(3), c.Held(3))
	}
	frees := tx.Signed(api.Tx{Op: api.Op{Kind: api.OpFree, Tower: 3, Channel: 1}}, 1)
	isRefused(t, "frees, and a fault", c, laid(c.Tip(), frees, s.locks), 1, api.ErrTwice)
	isRefused(t, "frees twice", c, laid(c.Tip(), frees, tx.Signed(api.Tx{Op: api.Op{Kind: api.OpFree, Tower: 3, Channel: 1, Amount: 1}}, 1)), 1, api.ErrNone)
	isAdded(t, "frees", c, laid(c.Tip(), frees))
	if c.Free(3) != 150 || c.Held(3) != 0 {
		t.Errorf("the tower has %d free, and holds %d", c.Free(3), c.Held(3))
	}
}

// hire is a chain, and what a tower does to hold for a channel.
type hire struct {
	c            *chain.Chain
	locks, holds api.Tx
}

// hired is a chain of the outs of a channel and of the tower 3.
func hired(t *testing.T) hire {
	t.Helper()
	both := api.Out{Amount: 100, Ways: []api.Way{{Keys: []int{1, 2}}}}
	c, first := started(t, both, lock.To(103, 200))
	locks := spending(at(first, 1), 0, 103, lock.To(103, 45))
	locks.Op = api.Op{Kind: api.OpBond, Tower: 3, Amount: 150, Root: api.Sum{7}}
	ch := api.Channel{Id: 1, Client: 1, Peer: 2, Fund: at(first, 0), Cap: 100, Wait: 6, Window: 4}
	holds := api.Tx{Op: api.Op{Kind: api.OpHold, Tower: 3, Channel: 1, Data: ledger.Channel(ch)}}
	return hire{c: c, locks: tx.Signed(locks, 103), holds: tx.Signed(holds, 103)}
}

func Test20_2WhatIsHandedInIsNotKept(t *testing.T) {
	c, first := rich(t)
	room := append(filledTxs(first), pay(first, 9, 9), pay(first, 10, 9))
	b := laid(c.Tip(), room[:len(room)-2]...)
	isAdded(t, "filled", c, b)
	if !tx.Same(room[len(room)-1], pay(first, 10, 9)) || !tx.Same(room[len(room)-2], pay(first, 9, 9)) {
		t.Error("what stands behind what was handed in has changed")
	}
	before := tell(c)
	spoilAll(b.Txs)
	b.Root = api.Sum{}
	isAsTold(t, "what was handed in was written over", c, before)
	isBlock(t, "as it was", c, 1, laid(block.Head{Ahead: first, Root: joined(3)}, filledTxs(first)...))
	isAdded(t, "on", c, laid(c.Tip(), pay(first, 9, 9)))
}

// filledTxs are transactions that can come behind rich's outs, and have something in each of their lists.
func filledTxs(first api.Sum) []api.Tx {
	out := api.Out{Amount: 500, Ways: []api.Way{{Keys: []int{1, 2, 3}, Hash: lock.Hash([]byte("a secret"))}, {Keys: []int{5}, After: 300, Wait: 4}}}
	x := api.Tx{Ins: []api.In{{Ref: at(first, 0), Pre: []byte("for nothing")}, {Ref: at(first, 1)}}, Outs: []api.Out{out, lock.To(3, 7)}}
	x = tx.Signed(x, 1, 2, 200)
	y := api.Tx{Ins: []api.In{{Ref: at(tx.Sum(x), 0), Pre: []byte("a secret")}}, Outs: []api.Out{lock.To(4, 100)}}
	y.Op = api.Op{Kind: api.OpBond, Tower: 5, Amount: 300, Root: api.Sum{3}, Data: []byte("for nothing, too")}
	return []api.Tx{x, tx.Signed(y, 1, 2, 3, 105)}
}

func Test20_2WhatIsAnsweredIsNewMemory(t *testing.T) {
	c, first := rich(t)
	isAdded(t, "filled", c, laid(c.Tip(), filledTxs(first)...))
	isAdded(t, "on", c, laid(c.Tip(), pays(first, 8)[6:]...))
	before := tell(c)
	for range 2 {
		for height := range 3 {
			b, ok := c.Block(height)
			if ok != (height > 0) {
				t.Fatal(height, ok)
			}
			_ = append(b.Txs[:0], api.Tx{})
			spoilAll(b.Txs)
		}
		for _, id := range c.Order() {
			d, _ := c.Done(id)
			spoil(d.Tx)
		}
		clear(c.Order())
		isAsTold(t, "what was answered was written over", c, before)
	}
	b, _ := c.Block(1)
	again, _ := c.Block(1)
	spoilAll(b.Txs)
	if !slices.EqualFunc(again.Txs, filledTxs(first), tx.Same) {
		t.Error("two answers share memory")
	}
}

// Who shows something else, or has other signs, comes with just these, though the sums are the same.
func Test20_2AsTheyCame(t *testing.T) {
	for _, keys := range [][]int{{1}, {0, 1}, {1, 255}} {
		c, first := rich(t)
		x := tx.Signed(pay(first, 1, 9), keys...)
		x.Ins[0].Pre = []byte{byte(len(keys))}
		isAdded(t, "signed otherwise", c, laid(c.Tip(), x))
		b, _ := c.Block(1)
		if len(b.Txs) != 1 || !slices.Equal(b.Txs[0].Signs, x.Signs) || !reflect.DeepEqual(b.Txs[0].Ins, x.Ins) {
			t.Errorf("there came %v, want %v", b.Txs, x)
		}
	}
}

// The ledger tells, by what the chain embeds, and by what that embeds.
func Test20_2LedgerIsPromoted(t *testing.T) {
	c, first := rich(t)
	isAdded(t, "on", c, laid(c.Tip(), pays(first, 2)...))
	if c.Of(100) != c.Ledger.View.Of(100) || c.Of(100) != 990 || c.Len() != 16 || c.Fees() != c.Ledger.Fees() {
		t.Errorf("the key 100 has %d of %d coins", c.Of(100), c.Len())
	}
	l := c.Clone()
	isAdded(t, "further on", c, laid(c.Tip(), pays(first, 3)[2:]...))
	if l.Of(102) != 0 || c.Of(102) != 990 || len(l.Order()) != 3 || len(c.Order()) != 4 {
		t.Error("a clone of the ledger goes with the chain")
	}
}
