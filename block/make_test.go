package block_test

import (
	"encoding/hex"
	"math"
	"reflect"
	"slices"
	"testing"

	"bartizan/api"
	"bartizan/block"
	"bartizan/lock"
	"bartizan/tx"
)

func Test19_1MakeOfEachLength(t *testing.T) {
	for n := range topTxs + 1 {
		h := ahead(n * 1000)
		l := payments(n)
		b := made(t, h, l...)
		want := block.Head{Ahead: headSum(h), Height: n*1000 + 1, Root: top(idsOf(l)), Many: n}
		if b.Head != want {
			t.Errorf("of %d the head is %v, want %v", n, b.Head, want)
		}
		if !reflect.DeepEqual(b.Txs, payments(n)) && n > 0 || len(b.Txs) != n {
			t.Errorf("of %d there are %v", n, b.Txs)
		}
	}
}

// These roots, and sums of heads, come of the document's words in another language.
func Test19_1MadeByOthers(t *testing.T) {
	h := block.Head{Ahead: counted(0), Height: 300, Root: counted(32), Many: 7}
	for n, want := range map[int][2]string{
		0:  {"084fed08b978af4d7d196a7446a86b58009e636b611db16211b65a9aadff29c5", "86556402972421d7a648cc06883d6db13531b14ed601c93bf75b2bda3be72c20"},
		1:  {"95ca1eb51365575a47ed42d9e1d095746c1d6453c9d9457b96846a874028c213", "4e87737a1028626cb052c2e8ee42c895ffe572a6b8ea3858788e99defafb2c27"},
		2:  {"910f28533cbc5c9fd7cb037d86c9e99091647c0bf986eee1ec5de302a8384c98", "a87678b1aa5ad41c72a4ef2416336c4074adbee788509012e9884be3e2fa0ce4"},
		3:  {"b24d6ba83d732fbc6d34bdbf735031f0f11c7199b477bf07d409f7926280f5ba", "b31f529ddb71578f61ca9d15625e8da7105f0384feac9627eb2a8ef6088121fc"},
		5:  {"e440589bd8370e391da57b9d1ef3d570efc2cf9fc56a8b5364880da9ce1f296b", "99b68a17f9a884205595b608b39f80b631e8867383fcd02569ca9de7e61a1d5c"},
		64: {"67f079221e7659e67568a0771121bf61678efac4f1d25c330c2774f4ab90aaf7", "0ec3d84d5f6e06d5b8b4fe7a794fad7f98449c7c4d373f54061c4f9134dffcfc"},
	} {
		b := made(t, h, payments(n)...)
		root, sum := b.Root, b.Sum()
		if hex.EncodeToString(root[:]) != want[0] || hex.EncodeToString(sum[:]) != want[1] {
			t.Errorf("of %d the root is %x, the sum %x, want %s", n, root, sum, want)
		}
	}
}

func Test19_1HeightsAroundTheirBounds(t *testing.T) {
	for _, height := range []int{0, 1, 2, 300, topHeight / 2, topHeight - 2, topHeight - 1} {
		for _, n := range []int{0, 1, topTxs} {
			if b := made(t, ahead(height), payments(n)...); b.Height != height+1 || b.Many != n {
				t.Errorf("behind %d stands %v", height, b.Head)
			}
			isRefused(t, ahead(height), payments(topTxs+1), api.ErrFull)
		}
	}
	for _, height := range []int{-1, -2, -topHeight, math.MinInt, topHeight, topHeight + 1, 1 << 40, math.MaxInt - 1, math.MaxInt} {
		for _, n := range []int{0, 1, topTxs, topTxs + 1} {
			isRefused(t, ahead(height), payments(n), api.ErrRange)
		}
	}
}

func Test19_1FullAbove64(t *testing.T) {
	if block.MaxTxs != topTxs {
		t.Errorf("MaxTxs is %d", block.MaxTxs)
	}
	for _, n := range []int{topTxs + 1, topTxs + 2, 2 * topTxs, 256, 257, 1000} {
		isRefused(t, ahead(3), payments(n), api.ErrFull)
		isRefused(t, block.Head{}, make([]api.Tx, n), api.ErrFull)
	}
}

// Of the head ahead its height alone is asked: it may be any other one that has no block.
func Test19_1AheadMayBeAny(t *testing.T) {
	for _, h := range []block.Head{{}, {Many: -1}, {Many: math.MinInt}, {Many: topTxs + 1}, {Ahead: full(), Height: 9, Root: full(), Many: math.MaxInt}} {
		b := made(t, h, payment(1))
		if b.Ahead != headSum(h) || b.Height != h.Height+1 || b.Many != 1 {
			t.Errorf("behind %v stands %v", h, b.Head)
		}
	}
}

func Test19_1TxsAsTheyAre(t *testing.T) {
	l := append([]api.Tx{filled(), payment(3), filled(), payment(3)}, wrongTxs()...)
	b := made(t, ahead(1), l...)
	if !reflect.DeepEqual(b.Txs, append([]api.Tx{filled(), payment(3), filled(), payment(3)}, wrongTxs()...)) {
		t.Errorf("there are %v", b.Txs)
	}
	if b.Root != top(idsOf(l)) || b.Many != len(l) {
		t.Errorf("the head is %v", b.Head)
	}
}

func Test19_1OrderIsKept(t *testing.T) {
	there, back := payments(9), payments(9)
	slices.Reverse(back)
	a, b := made(t, ahead(1), there...), made(t, ahead(1), back...)
	if a.Root == b.Root || a.Sum() == b.Sum() {
		t.Error("an order is not told")
	}
	if !reflect.DeepEqual(b.Txs, back) {
		t.Errorf("there are %v", b.Txs)
	}
}

func Test19_1NilIsNone(t *testing.T) {
	none := made(t, ahead(4))
	for _, l := range [][]api.Tx{nil, {}, make([]api.Tx, 0, 5)} {
		b := made(t, ahead(4), l...)
		if b.Head != none.Head || len(b.Txs) != 0 || b.Root != joined(3) {
			t.Errorf("of none: %v", b)
		}
	}
}

// write changes each list of a transaction.
func write(t api.Tx) {
	for i := range t.Ins {
		clear(t.Ins[i].Pre)
	}
	for i := range t.Outs {
		for j := range t.Outs[i].Ways {
			clear(t.Outs[i].Ways[j].Keys)
		}
		clear(t.Outs[i].Ways)
	}
	clear(t.Ins)
	clear(t.Outs)
	clear(t.Op.Data)
	clear(t.Signs)
}

func Test19_1WhatIsHandedInIsNotChangedAndNotKept(t *testing.T) {
	room := append([]api.Tx{filled(), payment(2)}, wrongTxs()...)
	room = append(room, filled(), payment(5))
	l := room[:len(room)-2]
	want := slices.Concat([]api.Tx{filled(), payment(2)}, wrongTxs())
	b := made(t, ahead(6), l...)
	_ = append(b.Txs, payment(7))
	if !reflect.DeepEqual(room, append(slices.Clone(want), filled(), payment(5))) {
		t.Fatal("what was handed in has changed")
	}
	for _, x := range l {
		write(x)
	}
	clear(l)
	if !reflect.DeepEqual(b.Txs, want) || !b.Right() {
		t.Error("what was handed in is kept")
	}
}

func Test19_1BlocksAreNewMemory(t *testing.T) {
	l := []api.Tx{filled(), filled()}
	a, b := made(t, ahead(6), l...), made(t, ahead(6), l...)
	write(a.Txs[0])
	a.Txs[0] = api.Tx{}
	want := []api.Tx{filled(), filled()}
	if !reflect.DeepEqual(l, want) || !reflect.DeepEqual(b.Txs, want) || !reflect.DeepEqual(a.Txs[1], filled()) {
		t.Error("an answer shares memory")
	}
}

func Test19_1SameAgain(t *testing.T) {
	for n := range 10 {
		a, b := made(t, ahead(n), payments(n)...), made(t, ahead(n), payments(n)...)
		if !reflect.DeepEqual(a, b) || a.Sum() != b.Sum() {
			t.Errorf("of %d twice: %v, %v", n, a, b)
		}
	}
}

func Test19_1OneBehindTheOther(t *testing.T) {
	h := block.Head{Ahead: api.Sum{5}, Root: joined(3)}
	for i := range 40 {
		b := made(t, h, payments(i)...)
		if b.Ahead != headSum(h) || b.Ahead != h.Sum() || b.Height != i+1 || !b.Right() {
			t.Errorf("the block %d is %v", i, b.Head)
		}
		h = b.Head
	}
	if h.Height != 40 || h.Many != 39 {
		t.Errorf("the last one is %v", h)
	}
}

func Test19_1RightAsItIsLaid(t *testing.T) {
	for n := range topTxs + 1 {
		for _, height := range []int{0, 1, 300, topHeight - 1, topHeight} {
			isRight(t, "laid", laid(height, payments(n)...), true)
		}
	}
	isRight(t, "any transactions", laid(3, append(wrongTxs(), filled(), filled())...), true)
}

func Test19_1NoTransactionsAreRight(t *testing.T) {
	isRight(t, "made of none", made(t, block.Head{}), true)
	isRight(t, "nil", block.Block{Head: block.Head{Root: joined(3)}}, true)
	isRight(t, "empty", block.Block{Head: block.Head{Root: joined(3)}, Txs: []api.Tx{}}, true)
	isRight(t, "the zero value", block.Block{}, false)
}

func Test19_1HeightsThatAreNotRight(t *testing.T) {
	for _, height := range []int{-1, -2, math.MinInt, topHeight + 1, topHeight + 2, 1 << 40, math.MaxInt} {
		for _, n := range []int{0, 1, 5, topTxs} {
			isRight(t, "a height", laid(height, payments(n)...), false)
		}
	}
}

func Test19_1ManyIsHowMany(t *testing.T) {
	for _, n := range []int{0, 1, 2, 3, 63, topTxs} {
		for _, many := range append(numbers(), n-1, n, n+1, n+256, n+1<<32) {
			b := laid(3, payments(n)...)
			b.Many = many
			isRight(t, "many", b, many == n)
		}
	}
}

func Test19_1MoreThan64AreNotRight(t *testing.T) {
	for _, n := range []int{topTxs - 1, topTxs, topTxs + 1, topTxs + 2, 2 * topTxs, 200} {
		isRight(t, "many", laid(3, payments(n)...), n <= topTxs)
	}
}

func Test19_1RootOfTheirSums(t *testing.T) {
	for _, n := range []int{0, 1, 2, 3, 7, topTxs} {
		for bit := range 256 {
			b := laid(3, payments(n)...)
			b.Root = flipped(b.Root, bit)
			isRight(t, "another root", b, false)
		}
		b := laid(3, payments(n)...)
		b.Root = api.Sum{}
		isRight(t, "no root", b, false)
		b.Root = joined(3)
		isRight(t, "the root of none", b, n == 0)
	}
	one := laid(3, payment(1))
	one.Root = tx.Sum(payment(1))
	isRight(t, "a sum for its leaf", one, false)
}

// Whoever is ahead, a head is that of its transactions.
func Test19_1AheadIsNotAskedFor(t *testing.T) {
	for _, s := range []api.Sum{{}, full(), counted(0)} {
		b := laid(3, payments(4)...)
		b.Ahead = s
		isRight(t, "ahead", b, true)
	}
}

func Test19_1OtherTransactionsAreNotRight(t *testing.T) {
	const n = 6
	for i := range n {
		for what, change := range map[string]func(l []api.Tx) []api.Tx{
			"another one":   func(l []api.Tx) []api.Tx { l[i] = payment(99); return l },
			"one that lost": func(l []api.Tx) []api.Tx { l[i].Outs = nil; return l },
			"an amount":     func(l []api.Tx) []api.Tx { l[i].Outs[0].Amount++; return l },
			"an op":         func(l []api.Tx) []api.Tx { l[i].Op.Kind = api.OpBond; return l },
			"a place":       func(l []api.Tx) []api.Tx { l[i].Ins[0].Ref.At++; return l },
			"one out":       func(l []api.Tx) []api.Tx { return slices.Delete(l, i, i+1) },
			"one more":      func(l []api.Tx) []api.Tx { return slices.Insert(l, i, payment(99)) },
			"one twice":     func(l []api.Tx) []api.Tx { return slices.Insert(l, i, payment(i)) },
			"turned":        func(l []api.Tx) []api.Tx { l[i], l[(i+1)%n] = l[(i+1)%n], l[i]; return l },
		} {
			b := laid(3, payments(n)...)
			b.Txs = change(payments(n))
			isRight(t, what, b, false)
			b.Many = len(b.Txs)
			isRight(t, what+", as many", b, false)
		}
	}
}

// What is shown, and who signed, is no part of a transaction's sum.
func Test19_1WhatIsShownAndSignedMayBeAny(t *testing.T) {
	b := laid(3, filled(), payment(1))
	b.Txs = []api.Tx{filled(), tx.Signed(payment(1), 5, 9)}
	b.Txs[0].Signs = nil
	b.Txs[0].Ins[0].Pre = []byte("another secret")
	isRight(t, "signed", b, true)
}

func Test19_1RightChangesNothing(t *testing.T) {
	b := laid(3, append(wrongTxs(), filled())...)
	want := laid(3, append(wrongTxs(), filled())...)
	b.Right()
	b.Sum()
	b.Path(2)
	if !reflect.DeepEqual(b, want) {
		t.Error("a block has changed")
	}
}

func Test19_1LongTransactions(t *testing.T) {
	long := api.Tx{Op: api.Op{Kind: api.OpProve, Data: make([]byte, api.MaxData)}, Outs: slices.Repeat([]api.Out{lock.To(1, 5)}, api.MaxList)}
	b := made(t, ahead(1), slices.Repeat([]api.Tx{long}, topTxs)...)
	isRight(t, "long ones", b, true)
	b.Txs[63].Op.Data[65535] = 1
	isRight(t, "a byte of the last one", b, false)
}
