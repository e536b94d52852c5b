package block_test

import (
	"bytes"
	"crypto/sha256"
	"encoding/hex"
	"math"
	"testing"

	"bartizan/api"
	"bartizan/block"
)

// counted is the sum of 32 bytes that rise.
func counted(from int) api.Sum {
	var s api.Sum
	for i := range s {
		s[i] = byte(from + i)
	}
	return s
}

// full is the sum all of whose bits are 1.
func full() api.Sum {
	return api.Sum(bytes.Repeat([]byte{0xff}, 32))
}

// These sums come of the document's words in another language.
func Test19_1SumsByOthers(t *testing.T) {
	for want, h := range map[string]block.Head{
		"de0eccf8a668ba66c8d3454a5f4d1c75b5175a6b354a08e94c65c1de71114c3b": {},
		"a7dfb677a758755a9b6b48bdf53aafe222176dbcd2611d070e18d79cecf94080": {Ahead: counted(0), Height: 1, Root: counted(32)},
		"6b4c8f9a20a4b5e0579c3799d7467863aee660403b94ddb4030c73500ab65ac9": {Ahead: counted(0), Height: 300, Root: counted(32), Many: 7},
		"29a085180cd8574ad2bd076ae454a0eeca7b0ab62ba7d426fa23e246d15e8eb7": {Ahead: full(), Height: topHeight, Root: full(), Many: topTxs},
		"f74f8a7c84725eaa35aaf48f7b65a85c2430840be0fb8ecc9bb30793611869cf": {Ahead: counted(32), Height: 127, Root: counted(0), Many: 128},
		"464b7ac1310f20e81cc97889ec6b50ab1823c8b8fd2eb4d21291be081b19de2f": {Height: math.MaxInt, Many: math.MaxInt},
	} {
		if s := h.Sum(); hex.EncodeToString(s[:]) != want {
			t.Errorf("of the height %d with %d the sum is %x, want %s", h.Height, h.Many, s, want)
		}
	}
}

func Test19_1SumByHand(t *testing.T) {
	text := []byte{81, 0, 0, 0, 67}
	text = append(text, bytes.Repeat([]byte{5}, 32)...)
	text = append(text, 172, 2)
	text = append(text, bytes.Repeat([]byte{6}, 32)...)
	text = append(text, 64)
	h := block.Head{Ahead: api.Sum(bytes.Repeat([]byte{5}, 32)), Height: 300, Root: api.Sum(bytes.Repeat([]byte{6}, 32)), Many: 64}
	if h.Sum() != sha256.Sum256(text) {
		t.Errorf("the sum is %x", h.Sum())
	}
}

// numbers are such as have unlike many bytes, and such as no head that is right has.
func numbers() []int {
	return []int{0, 1, 2, 63, 64, 65, 127, 128, 300, 16383, 16384, topHeight - 1, topHeight, topHeight + 1, 1 << 40, math.MaxInt, -1, -300, math.MinInt}
}

func Test19_1SumOfAllNumbers(t *testing.T) {
	for _, height := range numbers() {
		for _, many := range numbers() {
			h := block.Head{Ahead: counted(3), Height: height, Root: counted(9), Many: many}
			if h.Sum() != headSum(h) {
				t.Errorf("of the height %d with %d the sum is %x, want %x", height, many, h.Sum(), headSum(h))
			}
		}
	}
}

func Test19_1BelowZeroIsSummedAsZero(t *testing.T) {
	zero := block.Head{Ahead: counted(3), Root: counted(9)}
	for _, n := range []int{-1, -300, math.MinInt} {
		h := zero
		h.Height, h.Many = n, n
		if h.Sum() != zero.Sum() {
			t.Errorf("%d is not summed as 0", n)
		}
	}
}

func Test19_1UnlikeHeadsHaveUnlikeSums(t *testing.T) {
	seen := map[api.Sum]block.Head{}
	add := func(h block.Head) {
		if other, twice := seen[h.Sum()]; twice {
			t.Errorf("%v and %v have one sum", h, other)
		}
		seen[h.Sum()] = h
	}
	plain := block.Head{Ahead: counted(0), Height: 5, Root: counted(32), Many: 6}
	add(plain)
	for bit := range 256 {
		h := plain
		h.Ahead = flipped(h.Ahead, bit)
		add(h)
		h = plain
		h.Root = flipped(h.Root, bit)
		add(h)
	}
	for n := range 70 {
		for _, h := range []block.Head{{Height: n, Many: 1}, {Height: n, Many: 2}, {Height: n, Many: 200}} {
			add(h)
		}
	}
	add(block.Head{Ahead: counted(32), Height: 5, Root: counted(0), Many: 6})
	add(block.Head{Ahead: counted(0), Height: 6, Root: counted(32), Many: 5})
}

// A block's sum is its head's, whatever transactions stand behind it.
func Test19_1SumOfABlockIsItsHeads(t *testing.T) {
	b := laid(5, payments(3)...)
	want := headSum(b.Head)
	for _, l := range [][]api.Tx{b.Txs, nil, payments(2), wrongTxs()} {
		b.Txs = l
		if b.Sum() != want || b.Head.Sum() != want {
			t.Errorf("with %d the sum is %x, want %x", len(l), b.Sum(), want)
		}
	}
}
