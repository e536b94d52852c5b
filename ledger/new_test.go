package ledger_test

import (
	"encoding/hex"
	"math"
	"slices"
	"testing"

	"bartizan/api"
	"bartizan/ledger"
	"bartizan/lock"
	"bartizan/tx"
)

// rightOuts are outs that may be, that come to what may be together.
func rightOuts() []api.Out {
	var keys []int
	for i := range topList {
		keys = append(keys, 255-topList+1+i)
	}
	greatest := api.Way{Keys: keys, Hash: full(), After: topHeight, Wait: topHeight}
	return []api.Out{
		lock.To(1, 5),
		lock.To(0, 0),
		lock.To(255, 1<<40),
		{Amount: 3, Ways: []api.Way{{}}},
		{Amount: 9, Ways: []api.Way{{Keys: []int{1, 2}}, {Keys: []int{3}, Hash: api.Sum{1}, After: 4, Wait: 5}}},
		{Amount: 1, Ways: slices.Repeat([]api.Way{greatest}, topList)},
	}
}

// isNew holds all that is told of a ledger that is new.
func isNew(t *testing.T, outs ...api.Out) {
	t.Helper()
	l, id := started(t, outs...)
	first := api.Tx{Outs: outs}
	if id != idOf(first) {
		t.Errorf("the sum of %d outs is %x, want %x", len(outs), id, idOf(first))
	}
	if got := l.Order(); !slices.Equal(got, []api.Sum{id}) {
		t.Errorf("there came %x", got)
	}
	d, ok := l.Done(id)
	if !ok || d.Height != 0 || !isSameTx(d.Tx, first) || len(d.Ins) != 0 || len(d.Signs) != 0 || d.Op.Kind != 0 {
		t.Errorf("there came %v, %v", d, ok)
	}
	var all int64
	for i, o := range outs {
		isCoin(t, l, at(id, i), o, 0)
		isUnspent(t, l, at(id, i))
		all += o.Amount
	}
	if l.Len() != len(outs) || len(l.Towers()) != 0 {
		t.Errorf("there are %d coins, and the towers %v", l.Len(), l.Towers())
	}
	isLeft(t, l, all, 0, 0)
}

func Test18_1NewHasItsOutsAlone(t *testing.T) {
	isNew(t)
	isNew(t, lock.To(1, 0))
	isNew(t, lock.To(1, topAmount))
	isNew(t, lock.To(1, topAmount), lock.To(2, 0))
	isNew(t, lock.To(1, topAmount-1), lock.To(1, 1))
	isNew(t, rightOuts()...)
	for n := range topList + 1 {
		isNew(t, slices.Repeat([]api.Out{lock.To(n, topAmount/16)}, n)...)
	}
	for _, o := range rightOuts() {
		isNew(t, o)
		isNew(t, o, o)
	}
}

// The sums were worked out in another language.
func Test18_1NewsSums(t *testing.T) {
	for want, outs := range map[string][]api.Out{
		"4f3166038cb50f693ea5be4d746a4a5018a61ba5f4693a9eb6efbd72c28f1711": {},
		"8a0418d6c7c28b6091597fb39033d09e1d8658b814ca7c07d85aa169b39a6ec8": {lock.To(1, 5)},
		"8a75f31f8caf6a8c3c8aafa799b6c3479eb59edd8cfd0858141a9f2011dfcd00": {lock.To(7, 300), {Amount: 9, Ways: []api.Way{{Keys: []int{1, 2}}, {Keys: []int{3}, Hash: api.Sum{1}, After: 4, Wait: 500}}}},
	} {
		_, id := started(t, outs...)
		if got := hex.EncodeToString(id[:]); got != want {
			t.Errorf("%v has the sum %s, want %s", outs, got, want)
		}
	}
}

// isNotNew holds the error of outs of which there is no ledger.
func isNotNew(t *testing.T, what string, want api.Errno, outs ...api.Out) {
	t.Helper()
	if l, id, e := ledger.New(outs...); e != want || l != nil || id != (api.Sum{}) {
		t.Errorf("%s: %v, %x, %v, want %v", what, l, id, e, want)
	}
}

// wrongOuts are outs that may not be.
func wrongOuts() []api.Out {
	l := []api.Out{{}, {Amount: 5}, {Amount: 5, Ways: []api.Way{}}, {Amount: 5, Ways: make([]api.Way, topList+1)}}
	for _, n := range []int64{-1, math.MinInt64, topAmount + 1, math.MaxInt64} {
		l = append(l, lock.To(1, n))
	}
	for _, w := range []api.Way{
		{Keys: []int{-1}}, {Keys: []int{256}}, {Keys: []int{2, 1}}, {Keys: []int{1, 1}}, {Keys: make([]int, topList+1)},
		{After: -1}, {After: topHeight + 1}, {Wait: -1}, {Wait: topHeight + 1},
	} {
		l = append(l, api.Out{Amount: 5, Ways: []api.Way{{}, w}})
	}
	return l
}

func Test18_1NewOfOutsThatMayNotBe(t *testing.T) {
	for _, o := range wrongOuts() {
		isNotNew(t, "alone", api.ErrArg, o)
		isNotNew(t, "first", api.ErrArg, o, lock.To(1, 1))
		isNotNew(t, "last", api.ErrArg, append(rightOuts(), o)...)
		isNotNew(t, "the 17th", api.ErrArg, append(slices.Repeat([]api.Out{lock.To(1, 1)}, topList), o)...)
	}
}

func Test18_1NewOfTooMuch(t *testing.T) {
	most := lock.To(1, topAmount)
	isNotNew(t, "twice the most", api.ErrOver, most, most)
	isNotNew(t, "one more", api.ErrOver, most, lock.To(1, 1))
	isNotNew(t, "one ahead", api.ErrOver, lock.To(1, 1), most)
	isNotNew(t, "17 and more", api.ErrOver, slices.Repeat([]api.Out{lock.To(1, topAmount/16)}, topList+1)...)
	isNotNew(t, "the 17th", api.ErrOver, append(slices.Repeat([]api.Out{lock.To(1, topAmount/16)}, topList), lock.To(1, 1))...)
}

func Test18_1NewOfTooMany(t *testing.T) {
	for _, n := range []int{topList + 1, topList + 2, 100, 5000} {
		isNotNew(t, "ones", api.ErrFull, slices.Repeat([]api.Out{lock.To(1, 1)}, n)...)
		isNotNew(t, "nothing", api.ErrFull, slices.Repeat([]api.Out{lock.To(1, 0)}, n)...)
	}
}

// One by one: of two outs that are wrong the first one is told.
func Test18_1NewTellsTheFirst(t *testing.T) {
	most, more, wrong := lock.To(1, topAmount), lock.To(1, 1), api.Out{}
	isNotNew(t, "wrong, too much", api.ErrArg, most, wrong, more)
	isNotNew(t, "too much, wrong", api.ErrOver, most, more, wrong)
	isNotNew(t, "wrong first", api.ErrArg, wrong, most, more)
	many := slices.Repeat([]api.Out{most}, topList+1)
	isNotNew(t, "too much, too many", api.ErrOver, many...)
	isNotNew(t, "too much, too many, wrong", api.ErrOver, append(many, wrong)...)
	isNotNew(t, "too many, wrong", api.ErrArg, append(slices.Repeat([]api.Out{more}, topList+1), wrong)...)
}

func Test18_1NewKeepsNothing(t *testing.T) {
	for _, o := range rightOuts() {
		handed := api.Tx{Outs: []api.Out{copiedOut(o), lock.To(1, 2)}}
		l, id := started(t, handed.Outs...)
		if !isSameTx(handed, api.Tx{Outs: []api.Out{o, lock.To(1, 2)}}) {
			t.Errorf("what was handed in is %v", handed)
		}
		spoil(handed)
		isCoin(t, l, at(id, 0), o, 0)
		d, _ := l.Done(id)
		if tx.Sum(d.Tx) != id {
			t.Errorf("there came %v", d)
		}
	}
}

func Test18_1LedgersAreTheirOwn(t *testing.T) {
	a, id := started(t, lock.To(1, 5))
	b, other := started(t, lock.To(1, 5))
	if id != other {
		t.Errorf("%x is not %x", id, other)
	}
	x := tx.Signed(spending(one(id, 0), lock.To(2, 5)), 1)
	isDone(t, "in the one", a, x, 3)
	isCoin(t, b, at(id, 0), lock.To(1, 5), 0)
	isUnspent(t, b, at(id, 0))
	isDone(t, "in the other one", b, x, 4)
}
