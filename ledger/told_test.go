package ledger_test

import (
	"fmt"
	"math"
	"reflect"
	"slices"
	"sync"
	"testing"

	"bartizan/api"
	"bartizan/bond"
	"bartizan/ledger"
	"bartizan/lock"
	"bartizan/proof"
	"bartizan/tx"
	"bartizan/view"
)

// isTheSame holds that a ledger tells what it told.
func isTheSame(t *testing.T, what string, l *ledger.Ledger, before told) {
	t.Helper()
	if !reflect.DeepEqual(tell(l), before) {
		t.Errorf("%s: the ledger has changed", what)
	}
}

// twoWays is an out that the key 1 spends by the ways 0, 1 and 2.
func twoWays(n int64) api.Out {
	return api.Out{Amount: n, Ways: slices.Repeat([]api.Way{{Keys: []int{1}}}, 3)}
}

func Test18_3DoneIsWhatCame(t *testing.T) {
	l, first := started(t, lock.To(1, 5))
	x := tx.Signed(spending(one(first, 0), lock.To(2, 5)), 1, 9)
	x.Ins[0].Pre = []byte("for nothing")
	id := isDone(t, "at 7", l, x, 7)
	d, ok := l.Done(id)
	if !ok || d.Height != 7 || !isSameTx(d.Tx, x) {
		t.Errorf("there came %v, %v", d, ok)
	}
	if d.Outs[0].Amount != 5 || d.Signs[1].Key != 9 || string(d.Ins[0].Pre) != "for nothing" {
		t.Errorf("there came %v", d)
	}
	for i := range 256 {
		other := id
		other[i/8] ^= 1 << (i % 8)
		isNotThere(t, l, other)
	}
	isNotThere(t, l, api.Sum{})
	later := tx.Signed(spending(one(id, 0)), 2)
	isNotThere(t, l, tx.Sum(later))
	isRefused(t, "too early", l, spending(one(id, 0)), 8, api.ErrLock)
	isNotThere(t, l, tx.Sum(later))
	isDone(t, "at 8", l, later, 8)
	d, ok = l.Done(id)
	if !ok || d.Height != 7 || !isSameTx(d.Tx, x) {
		t.Errorf("there came %v, %v", d, ok)
	}
}

// isNotThere holds that nothing of a sum came.
func isNotThere(t *testing.T, l *ledger.Ledger, id api.Sum) {
	t.Helper()
	if d, ok := l.Done(id); ok || !reflect.DeepEqual(d, ledger.Done{}) {
		t.Errorf("%x came: %v, %v", id[:4], d, ok)
	}
	if f, ok := l.Facts(id); ok || !reflect.DeepEqual(f, proof.Facts{}) {
		t.Errorf("facts of %x are %v, %v", id[:4], f, ok)
	}
	if s, ok := l.Spent(at(id, 0)); ok || s != (ledger.Spend{}) {
		t.Errorf("%x was spent: %v, %v", id[:4], s, ok)
	}
}

func Test18_3SpentIsByWhat(t *testing.T) {
	l, first := started(t, twoWays(5), twoWays(6), twoWays(7))
	for i, way := range []int{2, 0, 1} {
		id := isDone(t, fmt.Sprint("way ", way), l, tx.Signed(of(at(first, i), way, nil), 1), 10+i)
		isSpent(t, l, at(first, i), ledger.Spend{By: id, Way: way, Height: 10 + i})
	}
	for _, r := range []api.Ref{at(first, 3), at(first, -1), at(first, math.MinInt), at(first, math.MaxInt), {}, at(api.Sum{1}, 0)} {
		isUnspent(t, l, r)
	}
}

func Test18_3FactsOfACommitment(t *testing.T) {
	for way := range 3 {
		l, first := started(t, twoWays(100))
		x := tx.Signed(spending(one(first, 0), twoWays(50), twoWays(40)), 1)
		id := isDone(t, "came", l, x, 20)
		isFacts(t, l, id, proof.Facts{Commit: x, At: 20})
		isDone(t, "its out 1", l, tx.Signed(of(at(id, 1), 1, nil), 1), 21)
		isFacts(t, l, id, proof.Facts{Commit: x, At: 20})
		isDone(t, "its out 0", l, tx.Signed(of(at(id, 0), way, nil), 1), 22)
		want := proof.Facts{Commit: x, At: 20}
		if way == 1 {
			want.Taken, want.When = true, 22
		}
		isFacts(t, l, id, want)
	}
}

// isFacts holds the facts of what came.
func isFacts(t *testing.T, l *ledger.Ledger, id api.Sum, want proof.Facts) {
	t.Helper()
	f, ok := l.Facts(id)
	if !ok || !isSameTx(f.Commit, want.Commit) || f.At != want.At || f.Taken != want.Taken || f.When != want.When {
		t.Errorf("facts of %x are %v, %v, want %v", id[:4], f, ok, want)
	}
}

func Test18_3FactsAreOfAnyThatCame(t *testing.T) {
	l, first := started(t, twoWays(100), lock.To(1, 3))
	isFacts(t, l, first, proof.Facts{Commit: api.Tx{Outs: []api.Out{twoWays(100), lock.To(1, 3)}}})
	id := isDone(t, "no outs", l, tx.Signed(of(at(first, 0), 1, nil), 1), 4)
	isFacts(t, l, first, proof.Facts{Commit: api.Tx{Outs: []api.Out{twoWays(100), lock.To(1, 3)}}, Taken: true, When: 4})
	isFacts(t, l, id, proof.Facts{Commit: tx.Signed(of(at(first, 0), 1, nil), 1), At: 4})
}

func Test18_3OrderIsNewMemory(t *testing.T) {
	l, first := started(t, lock.To(1, 5))
	var want []api.Sum
	want = append(want, first)
	last := at(first, 0)
	for i := range 20 {
		id := isDone(t, "on", l, tx.Signed(spending([]api.Ref{last}, lock.To(1, 5)), 1), 100+i)
		last = at(id, 0)
		want = append(want, id)
		got := l.Order()
		if !slices.Equal(got, want) {
			t.Fatalf("there came %x, want %x", got, want)
		}
		clear(got)
		_ = append(got[:0], api.Sum{1}, api.Sum{2})
	}
	if !slices.Equal(l.Order(), want) {
		t.Errorf("there came %x, want %x", l.Order(), want)
	}
}

func Test18_3WorthIsAllOfIt(t *testing.T) {
	l, first := started(t, lock.To(101, 100), lock.To(102, 60), lock.To(1, 5))
	isLeft(t, l, 165, 0, 0)
	x := spending(one(first, 0), lock.To(1, 30))
	x.Op = api.Op{Kind: api.OpBond, Tower: 1, Amount: 50, Root: api.Sum{1}}
	isDone(t, "locks 50", l, tx.Signed(x, 101), 1)
	isLeft(t, l, 95, 50, 20)
	x = spending(one(first, 1))
	x.Op = api.Op{Kind: api.OpBond, Tower: 2, Amount: 60, Root: api.Sum{2}}
	isDone(t, "locks 60", l, tx.Signed(x, 102), 1)
	isLeft(t, l, 35, 110, 20)
	x = spending(one(first, 2), lock.To(1, 1))
	isDone(t, "leaves 4", l, tx.Signed(x, 1), 1)
	isLeft(t, l, 31, 110, 24)
}

func Test18_3ClonesGoTheirOwnWay(t *testing.T) {
	l, first := started(t, lock.To(1, 5), lock.To(101, 20), lock.To(1, 6))
	id := isDone(t, "ahead", l, tx.Signed(spending(one(first, 0), lock.To(1, 4)), 1), 3)
	before := tell(l)
	c := l.Clone()
	if c == l || c.View == l.View || c.Board == l.Board {
		t.Fatal("a clone is the ledger itself")
	}
	isTheSame(t, "the clone", c, before)
	bonds := spending(one(first, 1), lock.To(101, 5))
	bonds.Op = api.Op{Kind: api.OpBond, Tower: 1, Amount: 15, Root: api.Sum{1}}
	isDone(t, "in the clone", c, tx.Signed(spending(one(id, 0), lock.To(2, 2)), 1), 4)
	isDone(t, "in the clone", c, tx.Signed(bonds, 101), 5)
	isTheSame(t, "the ledger", l, before)
	clone := tell(c)
	isDone(t, "in the ledger", l, tx.Signed(spending(one(first, 2), lock.To(3, 3)), 1), 6)
	isDone(t, "in the ledger", l, tx.Signed(bonds, 101), 7)
	isTheSame(t, "the clone", c, clone)
	isLeft(t, l, 12, 15, 4)
	isLeft(t, c, 13, 15, 3)
	second := c.Clone().Clone()
	isDone(t, "in a clone of a clone", second, tx.Signed(spending(one(first, 2)), 1), 8)
	isTheSame(t, "the clone", c, clone)
}

// Sums of what came stand in lists of their own, however much room they have.
func Test18_3ClonesOrdersAreTheirOwn(t *testing.T) {
	l, first := started(t, slices.Repeat([]api.Out{lock.To(1, 5)}, topList)...)
	var clones []*ledger.Ledger
	for i := range topList {
		c := l.Clone()
		isDone(t, "in a clone", c, tx.Signed(spending(one(first, i), lock.To(2, 5)), 1), 1)
		clones = append(clones, c)
		isDone(t, "in the ledger", l, tx.Signed(spending(one(first, i), lock.To(3, 5)), 1), 1)
	}
	for i, c := range clones {
		order := c.Order()
		d, _ := c.Done(order[len(order)-1])
		if len(order) != i+2 || d.Outs[0].Ways[0].Keys[0] != 2 {
			t.Errorf("in the clone %d there came %d, the last one %v", i, len(order), d)
		}
	}
}

func Test18_3NilAndNotGiven(t *testing.T) {
	x := api.Tx{Ins: []api.In{{}}}
	for i, l := range []*ledger.Ledger{nil, {}, {View: view.New()}, {Board: bond.New()}, {View: view.New(), Board: bond.New()}, {View: &view.View{}, Board: &bond.Board{}}} {
		isNotThere(t, l, api.Sum{})
		isNotThere(t, l, tx.Sum(x))
		if l.Order() != nil || l.Fees() != 0 || l.Worth() != 0 {
			t.Errorf("%d: %v, %d, %d", i, l.Order(), l.Fees(), l.Worth())
		}
		for _, y := range []api.Tx{{}, x, {Op: api.Op{Kind: api.OpAsk}}, tx.Signed(api.Tx{Op: api.Op{Kind: api.OpFree}}, 1)} {
			for _, height := range []int{-1, 0, 1, topHeight + 1} {
				if e := l.Apply(y, height); e != api.ErrArg {
					t.Errorf("%d: %v", i, e)
				}
			}
		}
		if l.Clone() != l {
			t.Errorf("%d: a clone is another one", i)
		}
	}
}

// All together is more than may be only where somebody puts a coin in by himself; it is told as it is.
func Test18_3WorthOfMoreThanMayBe(t *testing.T) {
	l, _ := started(t, lock.To(1, topAmount-2))
	for i := range 5 {
		if e := l.Put(at(api.Sum{8}, i), lock.To(1, topAmount), i); e != api.OK {
			t.Fatal(e)
		}
	}
	if e := l.Lock(3, 7, api.Sum{1}); e != api.OK {
		t.Fatal(e)
	}
	if got := l.Worth(); got != 6*topAmount+5 {
		t.Errorf("the worth is %d", got)
	}
}

// Worth of what somebody put together himself is nothing, too, though its parts have something.
func Test18_3NotGivenIsWorthNothing(t *testing.T) {
	l := &ledger.Ledger{View: view.New(), Board: bond.New()}
	l.Put(api.Ref{}, api.Out{Amount: 5, Ways: []api.Way{{}}}, 0)
	l.Lock(1, 5, api.Sum{1})
	if l.Worth() != 0 || l.Apply(api.Tx{Ins: []api.In{{}}}, 0) != api.ErrArg || l.Len() != 1 {
		t.Error("it is taken for one that New gave")
	}
}

// What a ledger embeds is what it tells of.
func Test18_3PartsArePromoted(t *testing.T) {
	l, first := started(t, lock.To(101, 100), lock.To(1, 7), lock.To(1, 8))
	v, b := l.View, l.Board
	x := spending(one(first, 0), lock.To(1, 20))
	x.Op = api.Op{Kind: api.OpBond, Tower: 1, Amount: 80, Root: api.Sum{1}}
	isDone(t, "locks", l, tx.Signed(x, 101), 1)
	if l.Of(1) != 35 || l.Len() != 3 || len(l.All()) != 3 {
		t.Errorf("the key 1 has %d, of %d coins", l.Of(1), l.Len())
	}
	if l.Free(1) != 80 || l.Held(1) != 0 || !slices.Equal(l.Towers(), []int{1}) {
		t.Errorf("the tower 1 has %d free", l.Free(1))
	}
	if l.View != v || l.Board != b || v.Of(1) != 35 || b.Total() != 80 {
		t.Error("the view and the board are not the very ones")
	}
}

// Many who ask at the same time are told the same.
func Test18_3NothingIsKept(t *testing.T) {
	l, first := started(t, lock.To(1, 5), lock.To(1, 6))
	id := isDone(t, "came", l, tx.Signed(spending(one(first, 0), twoWays(3)), 1), 3)
	before := tell(l)
	var all sync.WaitGroup
	for i := range 8 {
		all.Go(func() {
			for range 50 {
				c := l.Clone()
				if e := c.Apply(tx.Signed(spending(one(first, 1), lock.To(i, 6)), 1), i); e != api.OK {
					t.Error(e)
				}
				if f, ok := l.Facts(id); !ok || f.At != 3 {
					t.Error("other facts")
				}
				if !reflect.DeepEqual(tell(l), before) {
					t.Error("the ledger has changed")
				}
			}
		})
	}
	all.Wait()
}
