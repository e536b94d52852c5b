package block_test

import (
	"crypto/sha256"
	"encoding/binary"
	"math"
	"reflect"
	"testing"

	"bartizan/api"
	"bartizan/block"
	"bartizan/lock"
	"bartizan/tx"
)

// The greatest ones that may be, written out.
const (
	topHeight = 1073741824
	topTxs    = 64
)

// joined is Join, by the library's SHA-256.
func joined(tag byte, parts ...[]byte) api.Sum {
	b := []byte{tag}
	for _, p := range parts {
		b = binary.BigEndian.AppendUint32(b, uint32(len(p)))
		b = append(b, p...)
	}
	return sha256.Sum256(b)
}

// headSum is a head's sum, by the library's SHA-256 and its numbers: those of wire are varints in their one form.
func headSum(h block.Head) api.Sum {
	b := append([]byte(nil), h.Ahead[:]...)
	b = binary.AppendUvarint(b, uint64(max(h.Height, 0)))
	b = append(b, h.Root[:]...)
	b = binary.AppendUvarint(b, uint64(max(h.Many, 0)))
	return joined(81, b)
}

// cut is how many of n stand under the left one of the highest pair: the greatest power of two below n.
func cut(n int) int {
	k := 1
	for 2*k < n {
		k *= 2
	}
	return k
}

// pair is Pair with the tag 2.
func pair(a, b api.Sum) api.Sum {
	return joined(2, a[:], b[:])
}

// leaf is the leaf of a sum.
func leaf(s api.Sum) api.Sum {
	return joined(1, s[:])
}

// top is the root of a list. It comes from above, and knows no rows.
func top(l []api.Sum) api.Sum {
	switch len(l) {
	case 0:
		return joined(3)
	case 1:
		return leaf(l[0])
	}
	k := cut(len(l))
	return pair(top(l[:k]), top(l[k:]))
}

// way is the path of a place that a list has, the lowest first. It comes from above, too.
func way(at int, l []api.Sum) []api.Sum {
	if len(l) == 1 {
		return nil
	}
	k := cut(len(l))
	if at < k {
		return append(way(at, l[:k]), top(l[k:]))
	}
	return append(way(at-k, l[k:]), top(l[:k]))
}

// idsOf are the sums of transactions.
func idsOf(l []api.Tx) []api.Sum {
	var ids []api.Sum
	for _, t := range l {
		ids = append(ids, tx.Sum(t))
	}
	return ids
}

// payment is a transaction that is unlike those of other numbers.
func payment(n int) api.Tx {
	return api.Tx{Ins: []api.In{{Ref: api.Ref{Tx: api.Sum{0: byte(n), 1: byte(n >> 8)}, At: n % 3}}}, Outs: []api.Out{lock.To(n%256, int64(n)*1000)}}
}

// payments are n unlike transactions.
func payments(n int) []api.Tx {
	var l []api.Tx
	for i := range n {
		l = append(l, payment(i))
	}
	return l
}

// filled is a transaction that has something in each of its fields.
func filled() api.Tx {
	return api.Tx{
		Ins: []api.In{
			{Ref: api.Ref{Tx: api.Sum{1}, At: 2}, Way: 3, Pre: []byte("a secret")},
			{Ref: api.Ref{Tx: api.Sum{2}}, Pre: []byte{}},
		},
		Outs: []api.Out{
			{Amount: 300, Ways: []api.Way{{Keys: []int{1, 2}, Hash: api.Sum{3}, After: 100, Wait: 6}, {Keys: []int{}}}},
			lock.To(7, 5),
		},
		Op:    api.Op{Kind: api.OpHold, Tower: 3, Channel: 300, Amount: 5000, Root: api.Sum{9}, Data: []byte("a channel")},
		Signs: []api.Sign{{Key: 1, Of: api.Sum{4}}, {Key: 200, Of: api.Sum{5}}},
	}
}

// wrongTxs are transactions that may not be.
func wrongTxs() []api.Tx {
	return []api.Tx{
		{},
		{Signs: []api.Sign{{Key: 3}, {Key: 2}, {Key: 2, Of: api.Sum{1}}, {Key: -1}, {Key: 256}}},
		{Ins: []api.In{{Way: -1, Pre: make([]byte, 65)}, {Ref: api.Ref{At: math.MinInt}}, {Ref: api.Ref{At: math.MinInt}}}},
		{Ins: make([]api.In, 17), Outs: make([]api.Out, 17)},
		{Outs: []api.Out{{}, {Amount: -1, Ways: []api.Way{{Keys: []int{2, 1, -5}, After: -1, Wait: math.MaxInt}}}}},
		{Op: api.Op{Kind: -1, Tower: math.MaxInt, Channel: -2, Amount: math.MinInt64, Data: make([]byte, 65537)}},
		{Op: api.Op{Amount: 1}},
	}
}

// ahead is a head of a height.
func ahead(height int) block.Head {
	return block.Head{Ahead: api.Sum{7, 31: 8}, Height: height, Root: api.Sum{9, 31: 10}, Many: 7}
}

// made is a block that there is.
func made(t *testing.T, h block.Head, l ...api.Tx) block.Block {
	t.Helper()
	b, e := block.Make(h, l...)
	if e != api.OK {
		t.Fatalf("of %d behind the height %d: %v", len(l), h.Height, e)
	}
	return b
}

// laid is a block of transactions whose head is put together by hand.
func laid(height int, l ...api.Tx) block.Block {
	return block.Block{Head: block.Head{Ahead: api.Sum{1}, Height: height, Root: top(idsOf(l)), Many: len(l)}, Txs: l}
}

// isRight holds whether a block is right.
func isRight(t *testing.T, what string, b block.Block, want bool) {
	t.Helper()
	if b.Right() != want {
		t.Errorf("%s: right is %v, want %v", what, !want, want)
	}
}

// isRefused holds that no block is made, and why.
func isRefused(t *testing.T, h block.Head, l []api.Tx, want api.Errno) {
	t.Helper()
	b, e := block.Make(h, l...)
	if e != want || !reflect.DeepEqual(b, block.Block{}) {
		t.Errorf("of %d behind the height %d: %v, a block of %d, want %v", len(l), h.Height, e, len(b.Txs), want)
	}
}

// isHad holds whether a head has a sum at a place.
func isHad(t *testing.T, h block.Head, id api.Sum, at int, path []api.Sum, want bool) {
	t.Helper()
	if h.Has(id, at, path) != want {
		t.Errorf("of %d, %x at %d with a path of %d is had: %v, want %v", h.Many, id[:4], at, len(path), !want, want)
	}
}

// flipped is a sum of which one bit is another one.
func flipped(s api.Sum, bit int) api.Sum {
	s[bit/8] ^= 1 << (bit % 8)
	return s
}
