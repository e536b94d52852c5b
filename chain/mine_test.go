package chain_test

import (
	"fmt"
	"slices"
	"testing"

	"bartizan/api"
	"bartizan/block"
	"bartizan/lock"
	"bartizan/tx"
)

func Test20_3MineAllThatCan(t *testing.T) {
	for n := range topList + 1 {
		c, first := rich(t)
		l := pays(first, n)
		isMined(t, fmt.Sprint("of ", n), c, l, l...)
		if c.Fees() != int64(10*n) || c.Height() != 1 {
			t.Errorf("the fees are %d", c.Fees())
		}
	}
}

func Test20_3MineNone(t *testing.T) {
	c, first := rich(t)
	isMined(t, "nil", c, nil)
	isMined(t, "empty", c, []api.Tx{})
	ids, e := c.Mine()
	if len(ids) != 0 || e != api.OK || c.Height() != 3 {
		t.Errorf("%x, %v", ids, e)
	}
	isMined(t, "none that can", c, []api.Tx{{}, {}, spending(at(first, 0), 0, 2)})
	if c.Height() != 4 || len(c.Order()) != 1 {
		t.Errorf("the height is %d", c.Height())
	}
}

// Each fault is left out, wherever it stands, and those behind it come.
func Test20_3MineWithoutThoseThatCanNot(t *testing.T) {
	_, first := rich(t)
	good := pays(first, 6)[3:]
	for _, f := range faults(first) {
		c, _ := rich(t)
		isMined(t, "ahead", c, pays(first, 3), pays(first, 3)...)
		isMined(t, f.what, c, []api.Tx{f.x, good[0], f.x, f.x, good[1], good[2], f.x}, good...)
	}
	c, _ := rich(t)
	isMined(t, "ahead", c, pays(first, 3), pays(first, 3)...)
	var l []api.Tx
	for _, f := range faults(first) {
		l = append(l, f.x)
	}
	isMined(t, "all faults", c, append(l, pay(first, 7, 9)), pay(first, 7, 9))
}

func Test20_3MineBehindThoseAhead(t *testing.T) {
	c, first := rich(t)
	l := line(first, 1, 6)
	isMined(t, "turned", c, []api.Tx{l[1], l[0], l[3], l[2]}, l[0])
	isMined(t, "the one that is next, last", c, []api.Tx{l[3], l[2], l[4], l[1]}, l[1])
	isMined(t, "one that came, too", c, []api.Tx{l[2], l[1], l[3], l[0], l[4]}, l[2], l[3], l[4])
	isMined(t, "the last one", c, l, l[5])
	isMined(t, "all came", c, l)
}

// Of those that spend one out, or are the same one, the first one comes.
func Test20_3MineTheFirstOfTwo(t *testing.T) {
	for _, turned := range []bool{false, true} {
		c, first := rich(t)
		a, b := pay(first, 1, 50), pay(first, 1, 60)
		if turned {
			a, b = b, a
		}
		other := pay(first, 2, 50)
		isMined(t, "two of one out", c, []api.Tx{a, b, other}, a, other)
		isMined(t, "again", c, []api.Tx{b, a, other})
	}
	c, first := rich(t)
	a := pay(first, 1, 50)
	isMined(t, "one twice", c, []api.Tx{a, a, a}, a)
	d := pay(first, 2, 50)
	also := tx.Signed(d, 9)
	isMined(t, "signed otherwise", c, []api.Tx{also, d}, also)
	b, _ := c.Block(2)
	if len(b.Txs) != 1 || len(b.Txs[0].Signs) != 2 {
		t.Errorf("there came %v", b.Txs)
	}
	e := pay(first, 3, 50)
	unsigned := tx.Signed(e)
	unsigned.Signs = nil
	isMined(t, "first unsigned", c, []api.Tx{unsigned, e}, e)
}

func Test20_3Mine64AtMost(t *testing.T) {
	for _, n := range []int{topTxs - 1, topTxs, topTxs + 1, topTxs + 2, 2 * topTxs, 150} {
		c, first := rich(t)
		l := line(first, 1, n)
		rest := l
		for height := 1; len(rest) > 0; height++ {
			k := min(topTxs, len(rest))
			isMined(t, fmt.Sprint("of ", n, " at ", height), c, l, rest[:k]...)
			rest = rest[k:]
		}
		isMined(t, "all came", c, l)
	}
}

// Those that can't come take no room.
func Test20_3Mine64OfThoseThatCan(t *testing.T) {
	c, first := rich(t)
	l := line(first, 1, topTxs+10)
	other := pay(first, 2, 9)
	var mixed []api.Tx
	for _, x := range l {
		mixed = append(mixed, api.Tx{}, x, x, spending(at(first, 5), 0, 1))
	}
	isMined(t, "mixed", c, mixed, l[:topTxs]...)
	isMined(t, "what had no room", c, append(slices.Clone(mixed), other), append(slices.Clone(l[topTxs:]), other)...)
	c, first = rich(t)
	l = line(first, 1, topTxs)
	isMined(t, "one behind 64", c, append(slices.Clone(l), pay(first, 2, 9)), l...)
	isMined(t, "it comes next", c, []api.Tx{pay(first, 2, 9)}, pay(first, 2, 9))
	c, first = rich(t)
	l = line(first, 1, topTxs)
	isMined(t, "one ahead of 64", c, append([]api.Tx{pay(first, 2, 9)}, l...), append([]api.Tx{pay(first, 2, 9)}, l[:topTxs-1]...)...)
}

func Test20_3MineAtTheNextHeight(t *testing.T) {
	c, first := started(t, api.Out{Amount: 50, Ways: []api.Way{{Keys: []int{1}, After: 3}}}, api.Out{Amount: 60, Ways: []api.Way{{Keys: []int{1}, Wait: 5}}}, lock.To(1, 70))
	late := spending(at(first, 0), 0, 1, lock.To(2, 50))
	old := spending(at(first, 1), 0, 1, lock.To(2, 60))
	coin := spending(at(first, 2), 0, 1, api.Out{Amount: 70, Ways: []api.Way{{Keys: []int{1}, Wait: 1}}})
	young := spending(at(tx.Sum(coin), 0), 0, 1)
	l := []api.Tx{old, young, coin, late, young}
	for height, want := range [][]api.Tx{{}, {coin}, {young}, {late}, {}, {old}, {}} {
		if height > 0 {
			isMined(t, fmt.Sprint("at ", height), c, l, want...)
		}
	}
}

func Test20_3MineBonds(t *testing.T) {
	s := hired(t)
	isMined(t, "locks and holds", s.c, []api.Tx{s.holds, s.locks, s.holds, s.locks}, s.locks, s.holds)
	if s.c.Free(3) != 50 || s.c.Held(3) != 100 || s.c.Fees() != 5 {
		t.Errorf("the tower has %d free, and holds %d", s.c.Free(3), s.c.Held(3))
	}
}

func Test20_3MineKeepsNothing(t *testing.T) {
	c, first := rich(t)
	room := append(append([]api.Tx{{}}, filledTxs(first)...), pay(first, 9, 9), pay(first, 10, 9))
	l := room[:len(room)-2]
	isMined(t, "filled", c, l, filledTxs(first)...)
	if !tx.Same(room[len(room)-1], pay(first, 10, 9)) || !tx.Same(room[len(room)-2], pay(first, 9, 9)) {
		t.Error("what stands behind what was handed in has changed")
	}
	before := tell(c)
	spoilAll(l)
	isAsTold(t, "what was handed in was written over", c, before)
	b, _ := c.Block(1)
	if !slices.EqualFunc(b.Txs, filledTxs(first), tx.Same) {
		t.Errorf("there came %v", b.Txs)
	}
	ids, _ := c.Mine(pays(first, 9)[7:]...)
	before = tell(c)
	clear(ids)
	isAsTold(t, "sums that were written over", c, before)
}

// A block may be mined behind one that was added, and be added behind one that was mined.
func Test20_3MineAndAddByTurns(t *testing.T) {
	c, first := rich(t)
	all := pays(first, topList)
	for i := range 8 {
		isMined(t, "mined", c, all[2*i:2*i+1], all[2*i])
		isAdded(t, "added", c, laid(c.Tip(), all[2*i+1]))
	}
	if c.Height() != 16 || c.Fees() != 160 {
		t.Errorf("the height is %d, the fees %d", c.Height(), c.Fees())
	}
}

func Test20_3MineGoesOnBehindErrors(t *testing.T) {
	c, first := rich(t)
	all := pays(first, 3)
	isRefused(t, "a fault", c, laid(c.Tip(), all[0], api.Tx{}), 1, api.ErrArg)
	isMined(t, "on", c, all, all...)
	isRefused(t, "no form", c, block.Block{}, 0, api.ErrForm)
	isMined(t, "on", c, all)
}
