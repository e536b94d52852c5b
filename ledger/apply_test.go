package ledger_test

import (
	"fmt"
	"math"
	"slices"
	"testing"

	"bartizan/api"
	"bartizan/ledger"
	"bartizan/lock"
	"bartizan/tx"
)

func Test18_2WhatComesIsSpentAndIsThere(t *testing.T) {
	l, first := started(t, lock.To(1, 100), lock.To(2, 50), lock.To(3, 7))
	outs := []api.Out{lock.To(4, 60), lock.To(5, 80)}
	x := tx.Signed(spending([]api.Ref{at(first, 1), at(first, 0)}, outs...), 1, 2)
	id := isDone(t, "two ins, two outs", l, x, 12)
	isSpent(t, l, at(first, 0), ledger.Spend{By: id, Height: 12})
	isSpent(t, l, at(first, 1), ledger.Spend{By: id, Height: 12})
	isUnspent(t, l, at(first, 2))
	isCoin(t, l, at(first, 2), lock.To(3, 7), 0)
	isCoin(t, l, at(id, 0), outs[0], 12)
	isCoin(t, l, at(id, 1), outs[1], 12)
	isUnspent(t, l, at(id, 0))
	isLeft(t, l, 147, 0, 10)
	if got := l.Order(); !slices.Equal(got, []api.Sum{first, id}) {
		t.Errorf("there came %x", got)
	}
	y := tx.Signed(spending(one(id, 0), lock.To(4, 59)), 4)
	later := isDone(t, "what came is spent", l, y, 13)
	isSpent(t, l, at(id, 0), ledger.Spend{By: later, Height: 13})
	isSpent(t, l, at(first, 0), ledger.Spend{By: id, Height: 12})
	isLeft(t, l, 146, 0, 11)
	if got := l.Order(); !slices.Equal(got, []api.Sum{first, id, later}) {
		t.Errorf("there came %x", got)
	}
}

// What has no ins at all can't come; what has no outs leaves all to miners.
func Test18_2AllToMiners(t *testing.T) {
	l, first := started(t, lock.To(1, topAmount))
	x := tx.Signed(spending(one(first, 0)), 1)
	id := isDone(t, "no outs", l, x, 1)
	isSpent(t, l, at(first, 0), ledger.Spend{By: id, Height: 1})
	isLeft(t, l, 0, 0, topAmount)
	if l.Len() != 0 {
		t.Errorf("there are %d coins", l.Len())
	}
}

func Test18_2NothingToMiners(t *testing.T) {
	l, first := started(t, lock.To(1, topAmount))
	id := isDone(t, "all", l, tx.Signed(spending(one(first, 0), lock.To(2, topAmount-1), lock.To(2, 1), lock.To(2, 0)), 1), 1)
	isLeft(t, l, topAmount, 0, 0)
	isCoin(t, l, at(id, 2), lock.To(2, 0), 1)
}

// wrongTxs are transactions that may not be, by one that may be of one in.
func wrongTxs(x api.Tx) []api.Tx {
	l := []api.Tx{{}}
	for _, change := range []func(x *api.Tx){
		func(x *api.Tx) { x.Ins = nil },
		func(x *api.Tx) { x.Ins = append(x.Ins, x.Ins[0]) },
		func(x *api.Tx) { x.Ins[0].Ref.At = -1 },
		func(x *api.Tx) { x.Ins[0].Ref.At = topList },
		func(x *api.Tx) { x.Ins[0].Way = -1 },
		func(x *api.Tx) { x.Ins[0].Way = topList },
		func(x *api.Tx) { x.Ins[0].Pre = make([]byte, 65) },
		func(x *api.Tx) { x.Outs = append(x.Outs, api.Out{}) },
		func(x *api.Tx) { x.Outs = append(x.Outs, lock.To(-1, 0)) },
		func(x *api.Tx) { x.Outs = append(x.Outs, lock.To(1, -1)) },
		func(x *api.Tx) { x.Outs = slices.Repeat([]api.Out{lock.To(1, 0)}, topList+1) },
		func(x *api.Tx) { x.Signs = append(x.Signs, x.Signs[0]) },
		func(x *api.Tx) { x.Signs = append(x.Signs, api.Sign{Key: 256}) },
		func(x *api.Tx) { x.Signs = append([]api.Sign{{Key: -1}}, x.Signs...) },
		func(x *api.Tx) { x.Op.Kind = -1 },
		func(x *api.Tx) { x.Op.Kind = 8 },
		func(x *api.Tx) { x.Op.Tower = 1 },
		func(x *api.Tx) { x.Op.Amount = 1 },
		func(x *api.Tx) { x.Op = api.Op{Kind: api.OpAsk, Tower: topTower + 1} },
		func(x *api.Tx) { x.Op = api.Op{Kind: api.OpAsk, Tower: -1} },
		func(x *api.Tx) { x.Op = api.Op{Kind: api.OpAsk, Channel: topNumber + 1} },
		func(x *api.Tx) { x.Op = api.Op{Kind: api.OpAsk, Amount: topAmount + 1} },
		func(x *api.Tx) { x.Op = api.Op{Kind: api.OpAsk, Amount: -1} },
		func(x *api.Tx) { x.Op = api.Op{Kind: api.OpAsk, Data: make([]byte, 65537)} },
	} {
		y := copiedTx(x)
		change(&y)
		l = append(l, y)
	}
	return l
}

func Test18_2WhatMayNotBe(t *testing.T) {
	l, first := started(t, lock.To(1, 5))
	x := tx.Signed(spending(one(first, 0), lock.To(2, 5)), 1)
	for i, y := range wrongTxs(x) {
		isRefused(t, fmt.Sprint("wrong ", i), l, y, 0, api.ErrArg)
		if again := tx.Signed(y, 1); !tx.Right(again) { // to sign mends signs
			isRefused(t, fmt.Sprint("wrong ", i, ", signed"), l, again, 0, api.ErrArg)
		}
	}
	isDone(t, "what may be", l, x, 0)
	for i, y := range wrongTxs(x) {
		isRefused(t, fmt.Sprint("wrong ", i, " of what came"), l, y, 0, api.ErrArg)
	}
}

func Test18_2Heights(t *testing.T) {
	l, first := started(t, lock.To(1, 5))
	x := tx.Signed(spending(one(first, 0), lock.To(2, 5)), 1)
	for _, height := range []int{-1, -2, math.MinInt, topHeight + 1, 1 << 32, math.MaxInt} {
		isRefused(t, fmt.Sprint("at ", height), l, x, height, api.ErrArg)
		isRefused(t, fmt.Sprint("unsigned at ", height), l, spending(one(first, 0)), height, api.ErrArg)
		isRefused(t, fmt.Sprint("of no coin at ", height), l, spending(one(first, 1)), height, api.ErrArg)
	}
	for _, height := range []int{0, 1, 1000, topHeight - 1, topHeight} {
		c := l.Clone()
		id := isDone(t, fmt.Sprint("at ", height), c, x, height)
		isCoin(t, c, at(id, 0), lock.To(2, 5), height)
		isSpent(t, c, at(first, 0), ledger.Spend{By: id, Height: height})
		for _, again := range []int{-1, topHeight + 1} {
			isRefused(t, fmt.Sprint("what came, at ", again), c, x, again, api.ErrArg)
		}
	}
}

func Test18_2WhatCameCantComeAgain(t *testing.T) {
	l, first := started(t, lock.To(1, 5), lock.To(1, 6))
	x := tx.Signed(spending(one(first, 0), lock.To(2, 5)), 1)
	id := isDone(t, "at first", l, x, 3)
	for _, height := range []int{0, 3, 4, topHeight} {
		isRefused(t, "again", l, x, height, api.ErrTwice)
		isRefused(t, "unsigned", l, spending(one(first, 0), lock.To(2, 5)), height, api.ErrTwice)
		isRefused(t, "signed by others", l, tx.Signed(x, 0, 9, 100), height, api.ErrTwice)
		shows := copiedTx(x)
		shows.Ins[0].Pre = []byte("shown")
		isRefused(t, "and shows", l, shows, height, api.ErrTwice)
	}
	isDone(t, "and on", l, tx.Signed(spending(one(id, 0)), 2), 3)
	isRefused(t, "again, though its out is spent", l, x, 5, api.ErrTwice)
}

// A transaction that only does something can't come again, though the board would let it: what it does must be summed otherwise.
func Test18_2OpsCantComeAgain(t *testing.T) {
	l, first := started(t, lock.To(103, 100))
	more := func(n int) api.Tx {
		x := spending(nil)
		x.Op = api.Op{Kind: api.OpBond, Tower: 3, Amount: 1, Root: api.Sum{5}, Channel: n}
		return x
	}
	x := more(0)
	x.Ins = []api.In{{Ref: at(first, 0)}}
	x.Outs = []api.Out{lock.To(103, 99)}
	id := isDone(t, "at first", l, tx.Signed(x, 103), 1)
	isRefused(t, "again", l, tx.Signed(x, 103), 2, api.ErrTwice)
	isRefused(t, "out of nothing", l, tx.Signed(more(0), 103), 2, api.ErrAmount)
	ask := api.Tx{Op: api.Op{Kind: api.OpAsk, Tower: 3, Amount: 1}}
	isDone(t, "asked", l, tx.Signed(ask, 103), 2)
	isRefused(t, "asked again", l, tx.Signed(ask, 103), 2, api.ErrTwice)
	take := api.Tx{Op: api.Op{Kind: api.OpTake, Tower: 3}, Outs: []api.Out{lock.To(103, 1)}}
	isDone(t, "taken", l, tx.Signed(take, 103), 14)
	isRefused(t, "asked again", l, tx.Signed(ask, 103), 15, api.ErrTwice)
	again := ask
	again.Op.Channel = 1
	y := more(1)
	y.Ins = []api.In{{Ref: at(id, 0)}}
	isDone(t, "locked again", l, tx.Signed(y, 103), 15)
	isDone(t, "asked otherwise", l, tx.Signed(again, 103), 16)
}

// The transaction that was first came, too.
func Test18_2TheFirstCantComeAgain(t *testing.T) {
	l, _ := started(t, lock.To(1, 5))
	isRefused(t, "the first", l, api.Tx{Outs: []api.Out{lock.To(1, 5)}}, 0, api.ErrArg)
	empty, _ := started(t)
	isRefused(t, "of nothing", empty, api.Tx{}, 0, api.ErrArg)
}

func Test18_2NoSuchCoin(t *testing.T) {
	l, first := started(t, lock.To(1, 5), lock.To(1, 6))
	for i := range 256 {
		other := first
		other[i/8] ^= 1 << (i % 8)
		isRefused(t, fmt.Sprint("bit ", i), l, tx.Signed(spending(one(other, 0)), 1), 0, api.ErrCoin)
	}
	for _, n := range []int{2, 3, 15} {
		isRefused(t, fmt.Sprint("place ", n), l, tx.Signed(spending(one(first, n)), 1), 0, api.ErrCoin)
	}
	isRefused(t, "of nothing", l, tx.Signed(spending([]api.Ref{{}}), 1), 0, api.ErrCoin)
	x := tx.Signed(spending(one(first, 0), lock.To(2, 5)), 1)
	id := isDone(t, "spent", l, x, 0)
	isRefused(t, "spent twice", l, tx.Signed(spending(one(first, 0), lock.To(3, 5)), 1), 0, api.ErrCoin)
	isRefused(t, "spent twice, behind another one", l, tx.Signed(spending([]api.Ref{at(first, 1), at(first, 0)}), 1), 0, api.ErrCoin)
	isRefused(t, "of its own outs", l, tx.Signed(spending([]api.Ref{at(id, 1)}), 1), 0, api.ErrCoin)
	isDone(t, "the other one", l, tx.Signed(spending(one(first, 1)), 1), 0)
}

// of is a transaction that spends one place by a way, with what is shown.
func of(r api.Ref, way int, pre []byte) api.Tx {
	return api.Tx{Ins: []api.In{{Ref: r, Way: way, Pre: pre}}}
}

func Test18_2WaysThatAreNotThere(t *testing.T) {
	ways := []api.Way{{}, {Keys: []int{1}}, {}}
	l, first := started(t, api.Out{Amount: 5, Ways: ways}, api.Out{Amount: 5, Ways: slices.Repeat([]api.Way{{}}, topList)})
	for _, way := range []int{3, 4, 15} {
		isRefused(t, fmt.Sprint("way ", way), l, of(at(first, 0), way, nil), 0, api.ErrLock)
		isRefused(t, fmt.Sprint("way ", way, ", signed"), l, tx.Signed(of(at(first, 0), way, nil), 1), 0, api.ErrLock)
	}
	isRefused(t, "way 1, unsigned", l, of(at(first, 0), 1, nil), 0, api.ErrLock)
	for way := range 3 {
		c := l.Clone()
		id := isDone(t, fmt.Sprint("way ", way), c, tx.Signed(of(at(first, 0), way, nil), 1), 2)
		isSpent(t, c, at(first, 0), ledger.Spend{By: id, Way: way, Height: 2})
	}
	for way := range topList {
		c := l.Clone()
		id := isDone(t, fmt.Sprint("way ", way, " of 16"), c, of(at(first, 1), way, nil), 2)
		isSpent(t, c, at(first, 1), ledger.Spend{By: id, Way: way, Height: 2})
	}
}

func Test18_2WaysAskWhoSigned(t *testing.T) {
	l, first := started(t, api.Out{Amount: 5, Ways: []api.Way{{Keys: []int{1, 2}}}})
	x := spending(one(first, 0), lock.To(3, 5))
	for i, y := range []api.Tx{x, tx.Signed(x, 1), tx.Signed(x, 2), tx.Signed(x, 1, 3), tx.Signed(x, 0, 3, 101)} {
		isRefused(t, fmt.Sprint("signed ", i), l, y, 0, api.ErrLock)
	}
	// A sign of another sum is none.
	other := tx.Signed(spending(one(first, 0), lock.To(3, 4)), 1, 2)
	y := x
	y.Signs = other.Signs
	isRefused(t, "signed for another one", l, y, 0, api.ErrLock)
	y.Signs = []api.Sign{{Key: 1, Of: tx.Sum(x)}, {Key: 2, Of: first}}
	isRefused(t, "one of them for another one", l, y, 0, api.ErrLock)
	isDone(t, "others, too", l.Clone(), tx.Signed(x, 0, 1, 2, 3, 255), 0)
	isDone(t, "both", l, tx.Signed(x, 2, 1), 0)
}

func Test18_2WaysAskWhatIsShown(t *testing.T) {
	pre := []byte("what is shown")
	l, first := started(t, api.Out{Amount: 5, Ways: []api.Way{{Keys: []int{1}, Hash: lock.Hash(pre)}}}, lock.To(1, 5))
	for i, other := range [][]byte{nil, {}, pre[1:], append(slices.Clone(pre), 0), []byte("what is shewn"), make([]byte, 64)} {
		isRefused(t, fmt.Sprint("shown ", i), l, tx.Signed(of(at(first, 0), 0, other), 1), 0, api.ErrLock)
	}
	isRefused(t, "shown, unsigned", l, of(at(first, 0), 0, pre), 0, api.ErrLock)
	both := tx.Signed(api.Tx{Ins: []api.In{{Ref: at(first, 1), Pre: pre}, {Ref: at(first, 0)}}}, 1)
	isRefused(t, "shown of another in", l, both, 0, api.ErrLock)
	id := isDone(t, "shown", l, tx.Signed(of(at(first, 0), 0, pre), 1), 0)
	d, _ := l.Done(id)
	if string(d.Ins[0].Pre) != string(pre) {
		t.Errorf("shown was %x", d.Ins[0].Pre)
	}
	isDone(t, "shown for nothing", l, tx.Signed(of(at(first, 1), 0, pre), 1), 0)
}

func Test18_2WaysAskTheHeight(t *testing.T) {
	l, first := started(t, api.Out{Amount: 5, Ways: []api.Way{{After: 50}, {After: topHeight}}})
	for _, height := range []int{0, 1, 48, 49} {
		isRefused(t, fmt.Sprint("at ", height), l, of(at(first, 0), 0, nil), height, api.ErrLock)
	}
	isRefused(t, "ahead of the last one", l, of(at(first, 0), 1, nil), topHeight-1, api.ErrLock)
	isDone(t, "at the last one", l.Clone(), of(at(first, 0), 1, nil), topHeight)
	for _, height := range []int{50, 51, topHeight} {
		isDone(t, fmt.Sprint("at ", height), l.Clone(), of(at(first, 0), 0, nil), height)
	}
}

// How old a coin is goes by the height at which it came, not by the first one.
func Test18_2WaysAskHowOldTheCoinIs(t *testing.T) {
	l, first := started(t, lock.To(1, 5), api.Out{Amount: 6, Ways: []api.Way{{Wait: 7}}})
	waits := []api.Out{{Amount: 1, Ways: []api.Way{{Wait: 6}}}, {Amount: 1, Ways: []api.Way{{Wait: 0}}}, {Amount: 1, Ways: []api.Way{{After: 40, Wait: 6}}}}
	id := isDone(t, "waits", l, tx.Signed(spending(one(first, 0), waits...), 1), 30)
	for _, height := range []int{0, 6, 29, 30, 31, 35} {
		isRefused(t, fmt.Sprint("at ", height), l, of(at(id, 0), 0, nil), height, api.ErrLock)
	}
	for _, height := range []int{36, 37, 100, topHeight} {
		isDone(t, fmt.Sprint("at ", height), l.Clone(), of(at(id, 0), 0, nil), height)
	}
	for _, height := range []int{0, 29} {
		isRefused(t, fmt.Sprint("below it, at ", height), l, of(at(id, 1), 0, nil), height, api.ErrLock)
	}
	for _, height := range []int{36, 39} {
		isRefused(t, fmt.Sprint("both, at ", height), l, of(at(id, 2), 0, nil), height, api.ErrLock)
	}
	isDone(t, "at once", l.Clone(), of(at(id, 1), 0, nil), 30)
	isDone(t, "both", l.Clone(), of(at(id, 2), 0, nil), 40)
	isRefused(t, "the first, at 6", l, of(at(first, 1), 0, nil), 6, api.ErrLock)
	isDone(t, "the first, at 7", l, of(at(first, 1), 0, nil), 7)
}

// A height below the one of what came may be: nothing asks that they rise.
func Test18_2HeightsNeedNotRise(t *testing.T) {
	l, first := started(t, lock.To(1, 5), lock.To(1, 6))
	isDone(t, "at 50", l, tx.Signed(spending(one(first, 0)), 1), 50)
	id := isDone(t, "at 3", l, tx.Signed(spending(one(first, 1), lock.To(1, 6)), 1), 3)
	isCoin(t, l, at(id, 0), lock.To(1, 6), 3)
}

// More than may be can't be there, but for who puts a coin in by himself.
func Test18_2InsOfTooMuch(t *testing.T) {
	l, first := started(t, lock.To(1, topAmount-5), lock.To(1, 5))
	if e := l.Put(at(api.Sum{8}, 0), lock.To(1, 1), 0); e != api.OK {
		t.Fatal(e)
	}
	more := []api.Ref{at(first, 0), at(first, 1), at(api.Sum{8}, 0)}
	isOver := func(what string, x api.Tx, want api.Errno) {
		t.Helper()
		if e := l.Apply(x, 0); e != want {
			t.Errorf("%s: %v, want %v", what, e, want)
		}
	}
	isOver("all of it", tx.Signed(spending(more), 1), api.ErrOver)
	isOver("all of it, and no coin", tx.Signed(spending(append(slices.Clone(more), at(first, 2))), 1), api.ErrOver)
	isOver("no coin, and all of it", tx.Signed(spending(append([]api.Ref{at(first, 2)}, more...)), 1), api.ErrCoin)
	isOver("unsigned", spending(more), api.ErrLock)
	x := tx.Signed(spending(more), 1)
	x.Ins[2].Way = 1
	isOver("no such way of the last one", tx.Signed(x, 1), api.ErrLock)
	x = api.Tx{Ins: tx.Signed(spending(more), 1).Ins, Op: api.Op{Kind: api.OpAsk, Tower: 3}}
	isOver("ahead of what the op does", tx.Signed(x, 1), api.ErrOver)
	if l.Len() != 3 || len(l.Order()) != 1 {
		t.Errorf("there are %d coins, and came %d", l.Len(), len(l.Order()))
	}
	if e := l.Apply(tx.Signed(spending(more[:2]), 1), 0); e != api.OK {
		t.Errorf("what may be: %v", e)
	}
}

// Each in is asked all of it ahead of the next one.
func Test18_2InsInOrder(t *testing.T) {
	l, first := started(t, lock.To(1, 5), lock.To(2, 5))
	none, closed, open := at(first, 2), at(first, 1), at(first, 0)
	for _, k := range []struct {
		refs []api.Ref
		want api.Errno
	}{
		{[]api.Ref{none, closed}, api.ErrCoin},
		{[]api.Ref{closed, none}, api.ErrLock},
		{[]api.Ref{open, none}, api.ErrCoin},
		{[]api.Ref{open, closed}, api.ErrLock},
		{[]api.Ref{none, open}, api.ErrCoin},
		{[]api.Ref{closed, open}, api.ErrLock},
		{[]api.Ref{open, none, closed}, api.ErrCoin},
		{[]api.Ref{open, closed, none}, api.ErrLock},
	} {
		isRefused(t, fmt.Sprint(k.refs), l, tx.Signed(spending(k.refs), 1), 0, k.want)
		isRefused(t, fmt.Sprint(k.refs, " to too much"), l, tx.Signed(spending(k.refs, lock.To(1, topAmount)), 1), 0, k.want)
		x := spending(k.refs)
		x.Op = api.Op{Kind: api.OpAsk, Tower: 3}
		isRefused(t, fmt.Sprint(k.refs, " with an op"), l, tx.Signed(x, 1), 0, k.want)
	}
}

func Test18_2OutsOfTooMuch(t *testing.T) {
	l, first := started(t, lock.To(1, 100), lock.To(1, 50))
	for _, outs := range [][]api.Out{
		{lock.To(2, 101)},
		{lock.To(2, topAmount)},
		{lock.To(2, 100), lock.To(2, 1)},
		{lock.To(2, 0), lock.To(2, 51), lock.To(2, 50)},
	} {
		isRefused(t, fmt.Sprint(outs), l, tx.Signed(spending(one(first, 0), outs...), 1), 0, api.ErrAmount)
	}
	over := []api.Out{lock.To(2, topAmount), lock.To(2, 1)}
	isRefused(t, "more than may be", l, tx.Signed(spending(one(first, 0), over...), 1), 0, api.ErrOver)
	isRefused(t, "more than may be", l, tx.Signed(spending(one(first, 0), slices.Repeat(over[:1], topList)...), 1), 0, api.ErrOver)
	both := []api.Ref{at(first, 0), at(first, 1)}
	isRefused(t, "more than both", l, tx.Signed(spending(both, lock.To(2, 151)), 1), 0, api.ErrAmount)
	isDone(t, "both", l.Clone(), tx.Signed(spending(both, lock.To(2, 150)), 1), 0)
	isDone(t, "all", l, tx.Signed(spending(one(first, 0), lock.To(2, 100)), 1), 0)
}

func Test18_2SixteenOfEach(t *testing.T) {
	var outs []api.Out
	for i := range topList {
		outs = append(outs, lock.To(i, int64(i)))
	}
	l, first := started(t, outs...)
	var refs []api.Ref
	var keys []int
	for i := range topList {
		refs, keys = append(refs, at(first, topList-1-i)), append(keys, i)
	}
	x := tx.Signed(spending(refs, slices.Repeat([]api.Out{lock.To(9, 7)}, topList)...), keys...)
	id := isDone(t, "sixteen", l, x, 4)
	for i := range topList {
		isSpent(t, l, at(first, i), ledger.Spend{By: id, Height: 4})
		isCoin(t, l, at(id, i), lock.To(9, 7), 4)
	}
	isLeft(t, l, 112, 0, 8)
}

func Test18_2WhatIsHandedInIsNotKept(t *testing.T) {
	pre := []byte("shown")
	l, first := started(t, api.Out{Amount: 50, Ways: []api.Way{{Keys: []int{101}, Hash: lock.Hash(pre)}}})
	x := api.Tx{Ins: []api.In{{Ref: at(first, 0), Pre: pre}}, Outs: []api.Out{lock.To(2, 5), {Ways: []api.Way{{Keys: []int{4, 5}}}}}}
	x.Op = api.Op{Kind: api.OpBond, Tower: 1, Amount: 3, Root: api.Sum{6}, Data: []byte("data")}
	x = tx.Signed(x, 101)
	handed := copiedTx(x)
	id := isDone(t, "handed in", l, handed, 8)
	spoil(handed)
	for range 2 {
		d, _ := l.Done(id)
		f, _ := l.Facts(id)
		if !isSameTx(d.Tx, x) || !isSameTx(f.Commit, x) {
			t.Errorf("there came %v", d)
		}
		isCoin(t, l, at(id, 0), x.Outs[0], 8)
		isCoin(t, l, at(id, 1), x.Outs[1], 8)
		spoil(d.Tx)
		spoil(f.Commit)
	}
}
