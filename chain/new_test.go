package chain_test

import (
	"encoding/hex"
	"math"
	"slices"
	"testing"

	"bartizan/api"
	"bartizan/block"
	"bartizan/chain"
	"bartizan/ledger"
	"bartizan/lock"
)

// isNew holds all that is told of a chain that is new.
func isNew(t *testing.T, outs ...api.Out) {
	t.Helper()
	c, id := started(t, outs...)
	l, same, e := ledger.New(outs...)
	if e != api.OK || id != same || id != outsId(outs) {
		t.Errorf("of %d outs the sum is %x, want %x", len(outs), id, outsId(outs))
	}
	want := block.Head{Ahead: id, Height: 0, Root: joined(3), Many: 0}
	if h, ok := c.Head(0); !ok || h != want || c.Tip() != want || c.Height() != 0 {
		t.Errorf("of %d outs the first head is %v, %v, want %v", len(outs), h, ok, want)
	}
	for _, height := range []int{-1, 1, 2, math.MinInt, math.MaxInt} {
		isNoHeight(t, c, height)
	}
	isNoBlock(t, c, 0)
	if !slices.Equal(c.Order(), []api.Sum{id}) || c.Worth() != l.Worth() || c.Fees() != 0 || c.Len() != len(outs) {
		t.Errorf("of %d outs there came %x, worth %d", len(outs), c.Order(), c.Worth())
	}
	for i, o := range outs {
		if got, ok := c.View.Get(at(id, i)); !ok || got.Height != 0 || !lock.Same(got.Out, o) {
			t.Errorf("at %d is %v, %v, want %v", i, got, ok, o)
		}
	}
	if c.Deep(id) != 1 {
		t.Errorf("of %d outs the first transaction is %d deep", len(outs), c.Deep(id))
	}
}

func Test20_1NewOfEachLength(t *testing.T) {
	for n := range topList + 1 {
		isNew(t, slices.Repeat([]api.Out{lock.To(n, topAmount/topList)}, n)...)
	}
	isNew(t, lock.To(1, topAmount))
	isNew(t, lock.To(1, topAmount), lock.To(2, 0))
	isNew(t, richOuts()...)
	isNew(t, api.Out{Amount: 3, Ways: []api.Way{{}}}, api.Out{Amount: 300, Ways: []api.Way{{Keys: []int{1, 200}, Hash: api.Sum{1}, After: 4, Wait: 500}, {Keys: []int{3}}}})
}

func Test20_1NewsErrors(t *testing.T) {
	wrong, top, one := lock.To(256, 1), lock.To(1, topAmount), lock.To(1, 1)
	for _, c := range []struct {
		want api.Errno
		outs []api.Out
	}{
		{api.ErrArg, []api.Out{{}}},
		{api.ErrArg, []api.Out{one, wrong}},
		{api.ErrArg, []api.Out{lock.To(1, -1)}},
		{api.ErrArg, []api.Out{lock.To(1, topAmount+1)}},
		{api.ErrArg, slices.Repeat([]api.Out{wrong}, topList+1)},
		{api.ErrArg, append(slices.Repeat([]api.Out{one}, topList), wrong)},
		{api.ErrArg, []api.Out{top, wrong, one}},
		{api.ErrOver, []api.Out{top, one}},
		{api.ErrOver, []api.Out{top, one, wrong}},
		{api.ErrOver, slices.Repeat([]api.Out{top}, topList+1)},
		{api.ErrOver, slices.Repeat([]api.Out{lock.To(1, topAmount/topList)}, topList+1)},
		{api.ErrFull, slices.Repeat([]api.Out{one}, topList+1)},
		{api.ErrFull, slices.Repeat([]api.Out{lock.To(1, 0)}, 1000)},
	} {
		got, id, e := chain.New(c.outs...)
		if got != nil || id != (api.Sum{}) || e != c.want {
			t.Errorf("%d outs: %v, %x, %v, want %v", len(c.outs), got, id, e, c.want)
		}
		if _, _, same := ledger.New(c.outs...); same != e {
			t.Errorf("%d outs: %v, and of the ledger %v", len(c.outs), e, same)
		}
	}
}

func Test20_1NewKeepsNothingOfItsOuts(t *testing.T) {
	handed, same := richOuts(), richOuts()
	c, id := started(t, handed...)
	before := tell(c)
	if !slices.EqualFunc(handed, same, lock.Same) {
		t.Error("what was handed in has changed")
	}
	for i := range handed {
		handed[i].Ways[0].Keys[0] = 99
		handed[i].Ways[0].Wait = 7
		handed[i] = api.Out{}
	}
	isAsTold(t, "outs that were written over", c, before)
	if id != outsId(same) {
		t.Error("the sum is another one")
	}
}

func Test20_1EachNewOneIsItsOwn(t *testing.T) {
	a, first := rich(t)
	b, same := rich(t)
	if a == b || a.Ledger == b.Ledger || first != same || a.Tip() != b.Tip() {
		t.Fatal("two new ones are not alike, or are one")
	}
	before := tell(a)
	isMined(t, "in the other one", b, pays(first, 3), pays(first, 3)...)
	isAsTold(t, "the other one was mined", a, before)
	c, _ := started(t, lock.To(1, 999))
	if c.Tip() == a.Tip() || headSum(c.Tip()) == headSum(a.Tip()) {
		t.Error("of other outs the first head is the same")
	}
}

func Test20_1HeightsOneByOne(t *testing.T) {
	c, first := rich(t)
	heads := []block.Head{c.Tip()}
	blocks := []block.Block{{}}
	all := pays(first, topList)
	for n := 1; n <= 40; n++ {
		var l []api.Tx
		if n <= topList {
			l = all[n-1 : n]
		}
		b := laid(c.Tip(), l...)
		isAdded(t, "on", c, b)
		heads, blocks = append(heads, b.Head), append(blocks, b)
		if c.Height() != n || c.Tip() != b.Head {
			t.Fatalf("the height is %d, want %d", c.Height(), n)
		}
		for height, h := range heads {
			if got, ok := c.Head(height); !ok || got != h || got.Height != height {
				t.Errorf("of %d the head of %d is %v, %v", n, height, got, ok)
			}
			if height > 0 {
				isBlock(t, "one of them", c, height, blocks[height])
			}
		}
		isNoBlock(t, c, 0)
		for _, height := range []int{-1, -2, n + 1, n + 2, n + 256, n + 1<<32, -n, -n - 1, topHeight, math.MinInt, math.MaxInt} {
			isNoHeight(t, c, height)
		}
	}
	for height := 1; height <= 40; height++ {
		if heads[height].Ahead != headSum(heads[height-1]) {
			t.Errorf("the head of %d is not behind the one ahead", height)
		}
	}
}

// These sums come of the document's words in another language: the first transaction's, and, of the heads from 0 on, theirs.
func Test20_1MadeByOthers(t *testing.T) {
	c, first := started(t, lock.To(7, 300), api.Out{Amount: 9, Ways: []api.Way{{Keys: []int{1, 2}}, {Keys: []int{3}, Hash: api.Sum{1}, After: 4, Wait: 500}}})
	x := spending(at(first, 0), 0, 7, lock.To(8, 200), lock.To(9, 90))
	y := spending(at(idsOf([]api.Tx{x})[0], 1), 0, 9, lock.To(7, 89))
	isMined(t, "x and y", c, []api.Tx{x, y}, x, y)
	isMined(t, "none", c, nil)
	z := api.Tx{Ins: []api.In{{Ref: at(first, 1)}}}
	isMined(t, "z", c, []api.Tx{{}, z}) // that two must sign, and nobody did
	want := []string{
		"8a75f31f8caf6a8c3c8aafa799b6c3479eb59edd8cfd0858141a9f2011dfcd00",
		"6a589bf28ee6b2e59950fc054fa3d66b2e29088694affca8934ce58d76d4eaae",
		"399836a12a66776c138795f5b06085f3d45f692c9cad08567f3df2c9797e4fff",
		"59e84a9a9cd343599c0d95ad3bed3983a774b6889f8066a92a40b4f3751bea17",
		"b145c8c4dda99aa967ff620ec38f7457973084b2da8c9c2e3509a0dec02e3131",
	}
	got := []api.Sum{first}
	for height := range 4 {
		h, _ := c.Head(height)
		got = append(got, h.Sum())
	}
	for i, s := range got {
		if hex.EncodeToString(s[:]) != want[i] {
			t.Errorf("the sum %d is %x, want %s", i, s, want[i])
		}
	}
}
