package ledger_test

import (
	"fmt"
	"slices"
	"testing"

	"bartizan/api"
	"bartizan/bond"
	"bartizan/ledger"
	"bartizan/lock"
	"bartizan/tx"
)

func Test18_2BondLocks(t *testing.T) {
	s := staged(t)
	isDone(t, "250", s.l, s.bonding(t, 3, 250), 5)
	isTower(t, s.l, 3, bond.Tower{Root: rootOf(t, 3), Locked: 250})
	isLeft(t, s.l, 550, 250, 0)
	x := spending(one(s.first, otherAt), lock.To(104, 200))
	x.Op = bondOp(t, 4, 1)
	isDone(t, "1, and 99 to miners", s.l, tx.Signed(x, 104), 6)
	isTower(t, s.l, 4, bond.Tower{Root: rootOf(t, 4), Locked: 1})
	isLeft(t, s.l, 450, 251, 99)
	x = spending(one(s.first, clientAt))
	x.Op = bondOp(t, 3, 50)
	isDone(t, "of the client's", s.l, tx.Signed(x, 1, 103), 7)
	isTower(t, s.l, 3, bond.Tower{Root: rootOf(t, 3), Locked: 300})
	isLeft(t, s.l, 400, 301, 99)
}

func Test18_2BondIsTheTowers(t *testing.T) {
	for tower := range topTower + 1 {
		l, first := started(t, api.Out{Amount: 9, Ways: []api.Way{{}}})
		x := spending(one(first, 0))
		x.Op = bondOp(t, tower, 9)
		isSignedBy(t, fmt.Sprint("the tower ", tower), l, x, 100+tower, 3)
		isDone(t, "locks", l, tx.Signed(x, 100+tower), 3)
		isTower(t, l, tower, bond.Tower{Root: rootOf(t, tower), Locked: 9})
	}
}

func Test18_2BondsErrors(t *testing.T) {
	s := bonded(t)
	x := spending(one(s.first, clientAt))
	for _, k := range []struct {
		op   api.Op
		want api.Errno
	}{
		{api.Op{Kind: api.OpBond, Tower: 3, Root: rootOf(t, 3)}, api.ErrArg},
		{api.Op{Kind: api.OpBond, Tower: 3, Amount: 5}, api.ErrArg},
		{api.Op{Kind: api.OpBond, Tower: 3, Amount: 5, Root: rootOf(t, 4)}, api.ErrTwice},
		{api.Op{Kind: api.OpBond, Tower: 3, Amount: topAmount, Root: rootOf(t, 3)}, api.ErrOver},
		{api.Op{Kind: api.OpBond, Tower: 3, Amount: topAmount - 399, Root: rootOf(t, 3)}, api.ErrOver},
		{api.Op{Kind: api.OpBond, Tower: 3, Amount: topAmount - 400, Root: rootOf(t, 3)}, api.ErrAmount},
		{api.Op{Kind: api.OpBond, Tower: 3, Amount: 51, Root: rootOf(t, 3)}, api.ErrAmount},
	} {
		x.Op = k.op
		isRefused(t, fmt.Sprint(k.op), s.l, tx.Signed(x, 1, 103), 5, k.want)
		isRefused(t, fmt.Sprint(k.op, " unsigned"), s.l, tx.Signed(x, 1), 5, api.ErrSign)
	}
	x.Outs = []api.Out{lock.To(1, 1)}
	x.Op = bondOp(t, 3, 50)
	isRefused(t, "nothing is left for an out", s.l, tx.Signed(x, 1, 103), 5, api.ErrAmount)
	x.Op = bondOp(t, 3, 49)
	isDone(t, "just enough", s.l, tx.Signed(x, 1, 103), 5)
}

// All that goes in, and all outs, are one sum.
func Test18_2BondAndOutsOfTooMuch(t *testing.T) {
	l, first := started(t, lock.To(103, 7))
	x := spending(one(first, 0), lock.To(1, 1))
	x.Op = bondOp(t, 3, topAmount)
	isRefused(t, "more than may be", l, tx.Signed(x, 103), 5, api.ErrOver)
	x.Outs = []api.Out{lock.To(1, topAmount)}
	x.Op = bondOp(t, 3, 1)
	isRefused(t, "more than may be", l, tx.Signed(x, 103), 5, api.ErrOver)
	x.Outs = nil
	x.Op = bondOp(t, 3, topAmount)
	isRefused(t, "more than there is", l, tx.Signed(x, 103), 5, api.ErrAmount)
}

func Test18_2HoldHolds(t *testing.T) {
	s := bonded(t)
	isDone(t, "3 holds", s.l, doing(holdOp(3, s.c), 103), 2)
	isHeld(t, s.l, 3, 1, bond.Hold{Channel: s.c, Amount: 100})
	isNotHeld(t, s.l, 4, 1)
	second := s.c
	second.Id, second.Cap, second.Client = 5, 150, 9
	isDone(t, "3 holds another one", s.l, doing(holdOp(3, second), 103), 2)
	isHeld(t, s.l, 3, 5, bond.Hold{Channel: second, Amount: 150})
	isHeld(t, s.l, 3, 1, bond.Hold{Channel: s.c, Amount: 100})
	isTower(t, s.l, 3, bond.Tower{Root: rootOf(t, 3), Locked: 250})
	isLeft(t, s.l, 400, 400, 0)
	x := spending(one(s.first, clientAt), lock.To(1, 44))
	x.Op = holdOp(4, s.c)
	isDone(t, "4 holds, and a coin is spent", s.l, tx.Signed(x, 1, 104), 2)
	isHeld(t, s.l, 4, 1, bond.Hold{Channel: s.c, Amount: 100})
	isLeft(t, s.l, 394, 400, 6)
}

func Test18_2HoldIsTheTowers(t *testing.T) {
	s := bonded(t)
	isSignedBy(t, "a hold of 3", s.l, doing(holdOp(3, s.c)), 103, 2)
	isSignedBy(t, "a hold of 4", s.l, doing(holdOp(4, s.c)), 104, 2)
}

func Test18_2HoldsErrors(t *testing.T) {
	s := bonded(t)
	isWrong := func(what string, o api.Op, want api.Errno) {
		t.Helper()
		isRefused(t, what, s.l, doing(o, 100+o.Tower), 2, want)
		isRefused(t, what+", unsigned", s.l, doing(o, 1, 2), 2, api.ErrSign)
	}
	good := holdOp(3, s.c)
	for i := range good.Data {
		o := good
		o.Data = good.Data[:i]
		isWrong(fmt.Sprint("of ", i, " bytes"), o, api.ErrShort)
	}
	o := good
	o.Data = append(slices.Clone(good.Data), 0)
	isWrong("of a byte more", o, api.ErrLong)
	o.Data = append([]byte{0x81, 0}, good.Data[1:]...)
	isWrong("of another form", o, api.ErrForm)
	o.Data = append(slices.Repeat([]byte{0x81}, 9), good.Data[1:]...)
	isWrong("of nine bytes", o, api.ErrRange)
	for _, c := range wrongChannels() {
		o := holdOp(3, c)
		o.Channel = 1
		isWrong(fmt.Sprintf("of %+v", c), o, api.ErrForm)
	}
	for _, id := range []int{0, 2, 129, topNumber} {
		o := good
		o.Channel = id
		isWrong(fmt.Sprint("as the channel ", id), o, api.ErrArg)
		other := s.c
		other.Id = id
		o.Channel, o.Data = 1, bytesOf(other)
		isWrong(fmt.Sprint("of the channel ", id), o, api.ErrArg)
		o.Tower = 7
		isWrong(fmt.Sprint("of the channel ", id, ", and no such tower"), o, api.ErrArg)
	}
	isWrong("of no such tower", holdOp(7, s.c), api.ErrTower)
	great := s.c
	great.Cap = 251
	isWrong("of more than is free", holdOp(3, great), api.ErrBond)
	great.Cap = topAmount
	isWrong("of the most", holdOp(3, great), api.ErrBond)
	isDone(t, "at last", s.l, doing(good, 103), 2)
	again := good
	again.Amount = 1
	isWrong("again", again, api.ErrTwice)
	great.Cap = 151
	great.Id = 2
	isWrong("of more than is left free", holdOp(3, great), api.ErrBond)
	great.Cap = 150
	isDone(t, "of what is left free", s.l, doing(holdOp(3, great), 103), 2)
}

func askOp(tower int, n int64) api.Op {
	return api.Op{Kind: api.OpAsk, Tower: tower, Amount: n}
}

func takeOp(tower int) api.Op {
	return api.Op{Kind: api.OpTake, Tower: tower}
}

func Test18_2AskAndTake(t *testing.T) {
	s := holding(t)
	isDone(t, "3 asks", s.l, doing(askOp(3, 150), 103), 20)
	isTower(t, s.l, 3, bond.Tower{Root: rootOf(t, 3), Locked: 250, Asked: 150, At: 20})
	isLeft(t, s.l, 400, 400, 0)
	take := api.Tx{Op: takeOp(3), Outs: []api.Out{lock.To(9, 140)}}
	for _, height := range []int{0, 20, 31} {
		isRefused(t, fmt.Sprint("taken at ", height), s.l, tx.Signed(take, 103), height, api.ErrEarly)
	}
	id := isDone(t, "3 takes", s.l, tx.Signed(take, 103), 32)
	isTower(t, s.l, 3, bond.Tower{Root: rootOf(t, 3), Locked: 100})
	isCoin(t, s.l, at(id, 0), lock.To(9, 140), 32)
	isLeft(t, s.l, 540, 250, 10)
	isHeld(t, s.l, 3, 1, bond.Hold{Channel: s.c, Amount: 100})
}

func Test18_2AskIsTheTowers(t *testing.T) {
	s := bonded(t)
	isSignedBy(t, "3 asks", s.l, doing(askOp(3, 250)), 103, 2)
	isSignedBy(t, "4 asks", s.l, doing(askOp(4, 1)), 104, 2)
}

func Test18_2AsksErrors(t *testing.T) {
	s := holding(t)
	isWrong := func(what string, o api.Op, want api.Errno) {
		t.Helper()
		isRefused(t, what, s.l, doing(o, 100+o.Tower), 5, want)
		isRefused(t, what+", unsigned", s.l, doing(o, 1), 5, api.ErrSign)
	}
	isWrong("no such tower", askOp(5, 1), api.ErrTower)
	isWrong("nothing", askOp(3, 0), api.ErrBond)
	isWrong("more than is free", askOp(3, 151), api.ErrBond)
	isWrong("the most", askOp(3, topAmount), api.ErrBond)
	isDone(t, "one", s.l, doing(askOp(3, 1), 103), 5)
	isWrong("again", askOp(3, 2), api.ErrState)
	isWrong("more than is free again", askOp(3, 200), api.ErrState)
	isDone(t, "another one", s.l, doing(askOp(4, 50), 104), 5)
}

func Test18_2TakeIsTheTowers(t *testing.T) {
	s := bonded(t)
	isDone(t, "3 asks", s.l, doing(askOp(3, 100), 103), 2)
	x := doing(takeOp(3))
	x.Outs = []api.Out{lock.To(1, 100)}
	isSignedBy(t, "3 takes", s.l, x, 103, 14)
}

func Test18_2TakesErrors(t *testing.T) {
	s := bonded(t)
	isDone(t, "3 asks", s.l, doing(askOp(3, 100), 103), 2)
	taking := func(tower int, outs ...api.Out) api.Tx {
		return tx.Signed(api.Tx{Op: takeOp(tower), Outs: outs}, 100+tower)
	}
	isRefused(t, "no such tower", s.l, taking(5), 50, api.ErrTower)
	isRefused(t, "nothing was asked for", s.l, taking(4), 50, api.ErrNone)
	isRefused(t, "early", s.l, taking(3), 13, api.ErrEarly)
	isRefused(t, "early, and too much", s.l, taking(3, lock.To(1, 101)), 13, api.ErrEarly)
	isRefused(t, "too much", s.l, taking(3, lock.To(1, 101)), 14, api.ErrAmount)
	isRefused(t, "too much of two", s.l, taking(3, lock.To(1, 100), lock.To(1, 1)), 14, api.ErrAmount)
	isDone(t, "all of it", s.l.Clone(), taking(3, lock.To(1, 99), lock.To(2, 1)), 14)
	isDone(t, "all to miners", s.l.Clone(), taking(3), 14)
	x := spending(one(s.first, clientAt), lock.To(1, 151))
	x.Op = takeOp(3)
	isRefused(t, "too much of both", s.l, tx.Signed(x, 1, 103), 14, api.ErrAmount)
	x.Outs = []api.Out{lock.To(1, 150)}
	isDone(t, "all of both", s.l, tx.Signed(x, 1, 103), 14)
	isTower(t, s.l, 3, bond.Tower{Root: rootOf(t, 3), Locked: 150})
}

// More than may be can't come together, but for who locks out of nothing by himself.
func Test18_2TakenAndInsOfTooMuch(t *testing.T) {
	l, first := started(t, lock.To(103, 1))
	if e := l.Lock(3, topAmount, rootOf(t, 3)); e != api.OK {
		t.Fatal(e)
	}
	if e := l.Ask(3, topAmount, 0); e != api.OK {
		t.Fatal(e)
	}
	x := spending(one(first, 0))
	x.Op = takeOp(3)
	isRefused(t, "all, and one more", l, tx.Signed(x, 103), 12, api.ErrOver)
	x.Outs = []api.Out{lock.To(1, topAmount), lock.To(1, 2)}
	isRefused(t, "all, and one more, to too much", l, tx.Signed(x, 103), 12, api.ErrOver)
	isTower(t, l, 3, bond.Tower{Root: rootOf(t, 3), Locked: topAmount, Asked: topAmount})
	alone := api.Tx{Op: takeOp(3), Outs: []api.Out{lock.To(1, topAmount)}}
	isDone(t, "all of it alone", l, tx.Signed(alone, 103), 12)
}

func freeOp(tower, channel int) api.Op {
	return api.Op{Kind: api.OpFree, Tower: tower, Channel: channel}
}

func Test18_2FreeLetsGo(t *testing.T) {
	s := holding(t)
	isDone(t, "freed", s.l, doing(freeOp(3, 1), 1), 4)
	isNotHeld(t, s.l, 3, 1)
	isHeld(t, s.l, 4, 1, bond.Hold{Channel: s.c, Amount: 100})
	isTower(t, s.l, 3, bond.Tower{Root: rootOf(t, 3), Locked: 250})
	isLeft(t, s.l, 400, 400, 0)
	if s.l.Free(3) != 250 || s.l.Free(4) != 50 {
		t.Errorf("free are %d and %d", s.l.Free(3), s.l.Free(4))
	}
}

func Test18_2FreeIsTheClients(t *testing.T) {
	s := holding(t)
	isSignedBy(t, "3 is freed", s.l, doing(freeOp(3, 1)), 1, 4)
	second := s.c
	second.Id, second.Client, second.Cap = 2, 9, 50
	isDone(t, "holds another one", s.l, doing(holdOp(4, second), 104), 4)
	isSignedBy(t, "4 is freed", s.l, doing(freeOp(4, 2)), 9, 4)
}

func Test18_2FreesErrors(t *testing.T) {
	s, _ := proved(t)
	for _, keys := range [][]int{nil, {1}, {103}} {
		isRefused(t, "no such tower", s.l, doing(freeOp(5, 1), keys...), 16, api.ErrNone)
		isRefused(t, "no such channel", s.l, doing(freeOp(3, 2), keys...), 16, api.ErrNone)
		isRefused(t, "tower 0, channel 0", s.l, doing(freeOp(0, 0), keys...), 16, api.ErrNone)
	}
	isRefused(t, "a proof waits", s.l, doing(freeOp(3, 1), 1), 16, api.ErrState)
	isRefused(t, "a proof waits, unsigned", s.l, doing(freeOp(3, 1), 103), 16, api.ErrSign)
	isDone(t, "no proof waits", s.l, doing(freeOp(4, 1), 1), 16)
	again := freeOp(4, 1)
	again.Amount = 1
	isRefused(t, "again", s.l, doing(again, 1), 16, api.ErrNone)
}

// What else an op says is not asked.
func Test18_2OpsSayMore(t *testing.T) {
	s := holding(t)
	more := func(o api.Op) api.Op {
		o.Root = full()
		if o.Amount == 0 {
			o.Amount = topAmount
		}
		if o.Kind != api.OpHold {
			o.Data = []byte("more")
		}
		return o
	}
	isDone(t, "ask", s.l, doing(more(askOp(3, 5)), 103), 4)
	isDone(t, "take", s.l, doing(more(takeOp(3)), 103), 16)
	isDone(t, "free", s.l, doing(more(freeOp(3, 1)), 1), 16)
	isDone(t, "hold", s.l, doing(more(holdOp(3, s.c)), 103), 16)
	isHeld(t, s.l, 3, 1, bond.Hold{Channel: s.c, Amount: 100})
	isLeft(t, s.l, 400, 395, 5)
}

// What an op did is undone, if the amounts do not come out.
func Test18_2WhatIsRefusedIsNotDone(t *testing.T) {
	bare, held := bonded(t), holding(t)
	late, came := cheated(t)
	waits, _ := proved(t)
	isDone(t, "3 asks", held.l, doing(askOp(3, 10), 103), 4)
	proving := proveOp(t, 3, late.proof(t, came, 3))
	for what, k := range map[string]struct {
		l    *ledger.Ledger
		op   api.Op
		key  int
		outs []api.Out
	}{
		"hold":   {bare.l, holdOp(3, bare.c), 103, []api.Out{lock.To(1, 1)}},
		"ask":    {bare.l, askOp(3, 5), 103, []api.Out{lock.To(1, 1)}},
		"bond":   {bare.l, bondOp(t, 3, 5), 103, nil},
		"new":    {bare.l, bondOp(t, 9, 5), 109, nil},
		"take":   {held.l, takeOp(3), 103, []api.Out{lock.To(1, 11)}},
		"free":   {held.l, freeOp(3, 1), 1, []api.Out{lock.To(1, 1)}},
		"prove":  {late.l, proving, 1, []api.Out{lock.To(1, 1)}},
		"settle": {waits.l, settling().Op, 1, []api.Out{lock.To(1, 100), lock.To(1, 1)}},
	} {
		isRefused(t, what, k.l, tx.Signed(api.Tx{Op: k.op, Outs: k.outs}, k.key), 18, api.ErrAmount)
		over := append(k.outs, lock.To(1, topAmount), lock.To(1, topAmount))
		isRefused(t, what, k.l, tx.Signed(api.Tx{Op: k.op, Outs: over}, k.key), 18, api.ErrOver)
	}
}
