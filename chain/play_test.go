package chain_test

import (
	"math/rand"
	"reflect"
	"slices"
	"testing"

	"bartizan/api"
	"bartizan/block"
	"bartizan/chain"
	"bartizan/ledger"
	"bartizan/lock"
	"bartizan/tx"
	"bartizan/view"
)

// stage is what a play by a fixed row of chance makes transactions of.
type stage struct {
	chance *rand.Rand
	waits  []api.Tx // that were made, and may come once more
	steps  int64
}

// pick is one of a list.
func pick[T any](s *stage, l []T) T {
	return l[s.chance.Intn(len(l))]
}

// next is a transaction that is tried next: of a coin that there is, of one that waits itself, once more, or of nobody.
func (s *stage) next(rows []view.Row) api.Tx {
	switch n := s.chance.Intn(12); {
	case n == 0 && len(s.waits) > 0:
		return pick(s, s.waits)
	case n == 1:
		return pick(s, faults(api.Sum{9})).x
	case n < 6 && len(s.waits) > 0:
		x := pick(s, s.waits)
		if len(x.Outs) > 0 {
			return s.spend(view.Row{Ref: at(tx.Sum(x), 0), Coin: view.Coin{Out: x.Outs[0]}})
		}
	}
	if len(rows) == 0 {
		return api.Tx{}
	}
	return s.spend(pick(s, rows))
}

// spend spends a coin, for another key, at times signed by nobody, for too much, or locked by a tower.
func (s *stage) spend(r view.Row) api.Tx {
	n := max(0, r.Amount-int64(s.chance.Intn(40)-1))
	x := api.Tx{Ins: []api.In{{Ref: r.Ref}}}
	keys := slices.Clone(r.Ways[0].Keys)
	o := lock.To(pick(s, []int{1, 2, 103, 104}), n/2)
	o.Ways[0].Wait = s.chance.Intn(3)
	x.Outs = []api.Out{o, lock.To(pick(s, []int{1, 2, 103, 104}), n-n/2)}
	switch s.chance.Intn(10) {
	case 0:
		keys = nil
	case 1:
		x.Op = api.Op{Kind: api.OpBond, Tower: 3 + s.chance.Intn(2), Amount: n / 2, Root: api.Sum{1}}
		x.Outs = x.Outs[1:]
		keys = append(keys, 100+x.Op.Tower)
	case 2:
		s.steps++
		x = api.Tx{Op: api.Op{Kind: pick(s, []int{api.OpAsk, api.OpTake}), Tower: 3 + s.chance.Intn(2), Amount: s.steps}}
		keys = []int{103, 104}
	}
	x = tx.Signed(x, keys...)
	s.waits = append(s.waits, x)
	return x
}

// picked are those of a list that can come to a ledger at a height, one by one, 64 at most: they come.
func picked(l *ledger.Ledger, txs []api.Tx, height int) []api.Tx {
	var can []api.Tx
	for _, x := range txs {
		if len(can) < topTxs && l.Apply(x, height) == api.OK {
			can = append(can, x)
		}
	}
	return can
}

// overWire is a block that came as bytes.
func overWire(t *testing.T, b block.Block) block.Block {
	t.Helper()
	other := block.Block{Head: b.Head}
	for _, x := range b.Txs {
		bytes, e := tx.Bytes(x)
		if e != api.OK {
			t.Fatal(e)
		}
		y, e := tx.Read(bytes)
		if e != api.OK {
			t.Fatal(e)
		}
		other.Txs = append(other.Txs, y)
	}
	return other
}

// isShown holds that a block is right, and that its head has each of its transactions.
func isShown(t *testing.T, b block.Block) {
	t.Helper()
	if !b.Right() {
		t.Errorf("the block %d is not right", b.Height)
	}
	for i, x := range b.Txs {
		path, ok := b.Path(i)
		if !ok || !b.Head.Has(tx.Sum(x), i, path) {
			t.Errorf("the block %d has not its %d", b.Height, i)
		}
	}
}

// isLedger holds that a chain's ledger is as another one.
func isLedger(t *testing.T, c *chain.Chain, l *ledger.Ledger) {
	t.Helper()
	if !slices.Equal(c.Order(), l.Order()) || c.Fees() != l.Fees() || c.Worth() != l.Worth() || !reflect.DeepEqual(c.All(), l.All()) {
		t.Fatalf("at the height %d there came %d, fees %d; want %d, %d", c.Height(), len(c.Order()), c.Fees(), len(l.Order()), l.Fees())
	}
	for _, tower := range l.Towers() {
		a, _ := c.Board.Get(tower)
		if b, ok := l.Board.Get(tower); !ok || a != b {
			t.Errorf("the tower %d has %v, want %v", tower, a, b)
		}
	}
}

func Test20_4WhatIsMinedIsAddedByAnybody(t *testing.T) {
	came := 0
	for seed := range int64(6) {
		outs := []api.Out{lock.To(1, 4000), lock.To(2, 4000), lock.To(103, 4000), lock.To(104, 4000)}
		miner, _ := started(t, outs...)
		beside, _ := started(t, outs...)
		model, _, _ := ledger.New(outs...)
		s := &stage{chance: rand.New(rand.NewSource(seed))}
		for height := 1; height <= 40; height++ {
			var l []api.Tx
			rows := miner.All()
			for range s.chance.Intn(14) {
				l = append(l, s.next(rows))
			}
			want := picked(model, l, height)
			isMined(t, "a play", miner, l, want...)
			isLedger(t, miner, model)
			b, _ := miner.Block(height)
			isShown(t, b)
			isAdded(t, "beside", beside, overWire(t, b))
			came += len(b.Txs)
		}
		isAsTold(t, "beside", beside, tell(miner))
		isAddedLater(t, miner, outs)
	}
	if came < 400 {
		t.Errorf("there came %d", came)
	}
}

// isAddedLater holds that who comes later adds all blocks, from the first one on, and none out of its turn.
func isAddedLater(t *testing.T, c *chain.Chain, outs []api.Out) {
	t.Helper()
	late, _ := started(t, outs...)
	for height := 1; height <= c.Height(); height++ {
		for _, other := range []int{height - 1, height + 1, c.Height()} {
			if b, ok := c.Block(other); ok && other != height {
				isRefused(t, "out of its turn", late, b, 0, api.ErrState)
			}
		}
		b, _ := c.Block(height)
		isAdded(t, "later", late, b)
	}
	isAsTold(t, "later", late, tell(c))
}

// Who began with other outs adds nothing of it.
func Test20_4NotBehindOtherOuts(t *testing.T) {
	c, first := rich(t)
	isMined(t, "on", c, pays(first, 4), pays(first, 4)...)
	b, _ := c.Block(1)
	other, _ := started(t, append(richOuts()[:15], lock.To(16, 1001))...)
	isRefused(t, "behind other outs", other, b, 0, api.ErrState)
	same, _ := rich(t)
	isAdded(t, "behind the same outs", same, b)
	isAsTold(t, "behind the same outs", same, tell(c))
}

// Of two that mine beside each other, each adds its own alone.
func Test20_4TwoMiners(t *testing.T) {
	a, first := rich(t)
	b, _ := rich(t)
	isMined(t, "in one", a, pays(first, 2), pays(first, 2)...)
	isMined(t, "in the other one", b, pays(first, 3), pays(first, 3)...)
	isMined(t, "in the other one", b, nil)
	mine, _ := a.Block(1)
	theirs, _ := b.Block(1)
	next, _ := b.Block(2)
	isRefused(t, "theirs", a, theirs, 0, api.ErrState)
	isRefused(t, "their next one", a, next, 0, api.ErrState)
	isRefused(t, "mine", b, mine, 0, api.ErrState)
	c, _ := rich(t)
	isAdded(t, "to a third one", c, theirs)
	isAdded(t, "to a third one", c, next)
	isAsTold(t, "a third one", c, tell(b))
}

// Calls done twice, of chains that are alike, come to the same.
func Test20_4SameAgain(t *testing.T) {
	a, first := rich(t)
	b, _ := rich(t)
	for range 5 {
		l := append(filledTxs(first), line(first, 5, 70)...)
		one, e := a.Mine(l...)
		two, f := b.Mine(l...)
		if !slices.Equal(one, two) || e != f {
			t.Errorf("%x, %v and %x, %v", one, e, two, f)
		}
		isAsTold(t, "the other one", b, tell(a))
	}
}
