package block_test

import (
	"math"
	"slices"
	"testing"

	"bartizan/api"
	"bartizan/block"
	"bartizan/tx"
)

// pathOf is the path of a place that there is.
func pathOf(t *testing.T, b block.Block, at int) []api.Sum {
	t.Helper()
	path, ok := b.Path(at)
	if !ok {
		t.Fatalf("of %d, the place %d is none", len(b.Txs), at)
	}
	return path
}

func Test19_2PathByHand(t *testing.T) {
	l := payments(5)
	var f [5]api.Sum
	for i, x := range l {
		f[i] = leaf(tx.Sum(x))
	}
	ab, cd := pair(f[0], f[1]), pair(f[2], f[3])
	for at, want := range [][]api.Sum{{f[1], cd, f[4]}, {f[0], cd, f[4]}, {f[3], ab, f[4]}, {f[2], ab, f[4]}, {pair(ab, cd)}} {
		if path := pathOf(t, laid(3, l...), at); !slices.Equal(path, want) {
			t.Errorf("the path of %d is %x, want %x", at, path, want)
		}
	}
	if path := pathOf(t, laid(3, l[0]), 0); len(path) != 0 {
		t.Errorf("of one, the path is %x", path)
	}
}

func Test19_2PathOfEachPlace(t *testing.T) {
	for n := 1; n <= topTxs; n++ {
		b := laid(3, payments(n)...)
		ids := idsOf(b.Txs)
		for at := range n {
			if path := pathOf(t, b, at); !slices.Equal(path, way(at, ids)) {
				t.Errorf("of %d, the path of %d is %x, want %x", n, at, path, way(at, ids))
			}
		}
	}
}

func Test19_2NoSuchPlace(t *testing.T) {
	for _, n := range []int{0, 1, 2, 3, 4, 7, topTxs, topTxs + 1} {
		b := laid(3, payments(n)...)
		for _, many := range []int{n, 0, 2 * n, 1000, math.MaxInt, -1} {
			b.Many = many
			for _, at := range []int{-1, -2, -n - 1, math.MinInt, n, n + 1, 2*n + 1, 1 << 32, math.MaxInt} {
				if path, ok := b.Path(at); ok || len(path) != 0 {
					t.Errorf("of %d, the place %d has a path of %d, %v", n, at, len(path), ok)
				}
			}
		}
	}
	if path, ok := (block.Block{}).Path(0); ok || len(path) != 0 {
		t.Error("nothing has a place")
	}
}

// A path is one among the transactions that stand there, whatever the head says of them.
func Test19_2PathAsksNothingOfTheHead(t *testing.T) {
	for _, n := range []int{1, 3, topTxs, topTxs + 1, 100} {
		l := payments(n)
		for _, h := range []block.Head{{}, {Many: -1, Height: -1}, {Many: 1000, Height: math.MaxInt, Root: full()}} {
			b := block.Block{Head: h, Txs: l}
			for _, at := range []int{0, n / 2, n - 1} {
				if path := pathOf(t, b, at); !slices.Equal(path, way(at, idsOf(l))) {
					t.Errorf("of %d behind %v, the path of %d is %x", n, h, at, path)
				}
			}
		}
	}
}

func Test19_2PathIsNewMemory(t *testing.T) {
	b := laid(3, payments(8)...)
	first, second := pathOf(t, b, 3), pathOf(t, b, 2)
	want := slices.Clone(second)
	clear(first)
	_ = append(first, api.Sum{1}, api.Sum{2})
	if !slices.Equal(second, want) || !slices.Equal(pathOf(t, b, 2), want) {
		t.Error("an answer shares memory")
	}
}

func Test19_2HasByHand(t *testing.T) {
	l := []api.Sum{{1}, {2}, {3}}
	f := []api.Sum{leaf(l[0]), leaf(l[1]), leaf(l[2])}
	isHad(t, block.Head{Root: f[0], Many: 1}, l[0], 0, nil, true)
	isHad(t, block.Head{Root: f[0], Many: 1}, l[0], 0, []api.Sum{}, true)
	h := block.Head{Root: pair(pair(f[0], f[1]), f[2]), Many: 3}
	isHad(t, h, l[0], 0, []api.Sum{f[1], f[2]}, true)
	isHad(t, h, l[1], 1, []api.Sum{f[0], f[2]}, true)
	isHad(t, h, l[2], 2, []api.Sum{pair(f[0], f[1])}, true)
	isHad(t, h, l[1], 0, []api.Sum{f[0], f[2]}, false)
	isHad(t, h, l[0], 0, []api.Sum{f[2], f[1]}, false)
	isHad(t, h, f[0], 0, []api.Sum{f[1], f[2]}, false)
	isHad(t, h, pair(f[0], f[1]), 0, []api.Sum{f[2]}, false)
}

func Test19_2OtherSumsAndPlaces(t *testing.T) {
	for _, n := range []int{1, 2, 3, 5, 8, 13} {
		l := payments(n)
		h := laid(3, l...).Head
		for i, id := range idsOf(l) {
			path := way(i, idsOf(l))
			for at := range n {
				isHad(t, h, id, at, path, at == i)
			}
			for _, at := range []int{-1, i - n, i - 64, math.MinInt, n, i + n, i + 64, i + 1<<32, math.MaxInt} {
				isHad(t, h, id, at, path, false)
			}
			for _, other := range append(idsOf(payments(n+2)), api.Sum{}, h.Root, h.Ahead, h.Sum(), leaf(id)) {
				isHad(t, h, other, i, path, other == id)
			}
			for bit := range 256 {
				isHad(t, h, flipped(id, bit), i, path, false)
			}
		}
	}
}

func Test19_2OtherPaths(t *testing.T) {
	for _, n := range []int{1, 2, 3, 5, 8, 13} {
		l := payments(n)
		h := laid(3, l...).Head
		for i, id := range idsOf(l) {
			path := way(i, idsOf(l))
			isHad(t, h, id, i, append(slices.Clone(path), api.Sum{}), false)
			isHad(t, h, id, i, append(slices.Clone(path), h.Root), false)
			isHad(t, h, id, i, nil, len(path) == 0)
			for j := range path {
				isHad(t, h, id, i, slices.Delete(slices.Clone(path), j, j+1), false)
				isHad(t, h, id, i, slices.Insert(slices.Clone(path), j, api.Sum{}), false)
				other := slices.Clone(path)
				other[j] = flipped(other[j], 8*j+3)
				isHad(t, h, id, i, other, false)
			}
		}
	}
}

// Whether a sum is had hangs on Root and Many alone.
func Test19_2HasAsksRootAndManyAlone(t *testing.T) {
	l := payments(6)
	ids := idsOf(l)
	h := laid(3, l...).Head
	for _, height := range numbers() {
		other := h
		other.Ahead, other.Height = full(), height
		isHad(t, other, ids[4], 4, way(4, ids), true)
	}
	for bit := range 256 {
		other := h
		other.Root = flipped(h.Root, bit)
		isHad(t, other, ids[4], 4, way(4, ids), false)
	}
	for _, many := range []int{5, 7, 8, 9, 4, 3, 0, -1, -6, math.MinInt, 4097, 1 << 32, math.MaxInt} {
		other := h
		other.Many = many
		// the last of six stands two rows up beside four, and so it does in no list of these lengths
		isHad(t, other, ids[5], 5, way(5, ids), false)
	}
}

// Chapter 3 bounds how many there are, and not what a block may have.
func Test19_2ManyUpTo4096(t *testing.T) {
	ids := make([]api.Sum, 4100)
	for i := range ids {
		ids[i] = api.Sum{byte(i), byte(i >> 8), 9}
	}
	for _, n := range []int{topTxs, topTxs + 1, 100, 1000, 4095, 4096, 4097, 4100} {
		h := block.Head{Root: top(ids[:n]), Many: n}
		for _, at := range []int{0, 1, n / 2, n - 1} {
			isHad(t, h, ids[at], at, way(at, ids[:n]), n <= 4096)
		}
	}
}

func Test19_2NothingHasNothing(t *testing.T) {
	for _, h := range []block.Head{{}, {Root: joined(3)}, {Root: leaf(api.Sum{})}, {Root: leaf(api.Sum{}), Many: -1}} {
		for _, at := range []int{0, -1, 1, math.MinInt, math.MaxInt} {
			isHad(t, h, api.Sum{}, at, nil, false)
			isHad(t, h, joined(3), at, nil, false)
			isHad(t, h, h.Root, at, []api.Sum{h.Root}, false)
		}
	}
	isHad(t, block.Head{Root: leaf(api.Sum{}), Many: 1}, api.Sum{}, 0, nil, true)
}

func Test19_2HasChangesNothing(t *testing.T) {
	l := payments(7)
	h := laid(3, l...).Head
	for i, id := range idsOf(l) {
		want := way(i, idsOf(l))
		room := append(slices.Clone(want), full(), full())
		isHad(t, h, id, i, room[:len(want)], true)
		isHad(t, h, id, i+1, room[:len(want)], false)
		if !slices.Equal(room, append(slices.Clone(want), full(), full())) {
			t.Errorf("the path of %d has changed", i)
		}
	}
}

func Test19_3WhatIsMadeIsRightAndHasEach(t *testing.T) {
	for n := range topTxs + 1 {
		b := made(t, ahead(n), payments(n)...)
		isRight(t, "made", b, true)
		for at, x := range payments(n) {
			path := pathOf(t, b, at)
			isHad(t, b.Head, tx.Sum(x), at, path, true)
			if !b.Has(tx.Sum(x), at, path) {
				t.Errorf("of %d, the block has not %d", n, at)
			}
			isHad(t, b.Head, tx.Sum(payment(99)), at, path, false)
		}
	}
}

func Test19_3AtTheGreatestHeight(t *testing.T) {
	b := made(t, ahead(topHeight-1), payments(topTxs)...)
	isRight(t, "the last one", b, true)
	isRefused(t, b.Head, nil, api.ErrRange)
}

// Those that may not be, and those that stand there twice, are had, too.
func Test19_3WhateverTransactions(t *testing.T) {
	l := slices.Concat(wrongTxs(), []api.Tx{filled(), filled(), tx.Signed(filled(), 9)}, wrongTxs())
	b := made(t, ahead(5), l...)
	isRight(t, "made", b, true)
	for at, x := range l {
		isHad(t, b.Head, tx.Sum(x), at, pathOf(t, b, at), true)
	}
}
