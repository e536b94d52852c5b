package chain_test

import (
	"bytes"
	"crypto/sha256"
	"encoding/binary"
	"reflect"
	"slices"
	"testing"

	"bartizan/api"
	"bartizan/block"
	"bartizan/bond"
	"bartizan/chain"
	"bartizan/ledger"
	"bartizan/lock"
	"bartizan/tx"
	"bartizan/wire"
)

// The greatest ones that may be, written out.
const (
	topAmount = 1125899906842624
	topHeight = 1073741824
	topList   = 16
	topTxs    = 64
)

// joined is Join, by the library's SHA-256.
func joined(tag byte, parts ...[]byte) api.Sum {
	b := []byte{tag}
	for _, p := range parts {
		b = binary.BigEndian.AppendUint32(b, uint32(len(p)))
		b = append(b, p...)
	}
	return sha256.Sum256(b)
}

// headSum is a head's sum, by the library's SHA-256 and its numbers: those of wire are varints in their one form.
func headSum(h block.Head) api.Sum {
	b := slices.Clone(h.Ahead[:])
	b = binary.AppendUvarint(b, uint64(h.Height))
	b = append(b, h.Root[:]...)
	b = binary.AppendUvarint(b, uint64(h.Many))
	return joined(81, b)
}

// rootOf is the root of a list. It comes from above, and knows no rows.
func rootOf(l []api.Sum) api.Sum {
	switch len(l) {
	case 0:
		return joined(3)
	case 1:
		return joined(1, l[0][:])
	}
	k := 1
	for 2*k < len(l) {
		k *= 2
	}
	a, b := rootOf(l[:k]), rootOf(l[k:])
	return joined(2, a[:], b[:])
}

// outsId is the sum of a transaction of outs alone, by the library's SHA-256.
func outsId(outs []api.Out) api.Sum {
	num := func(b []byte, n int) []byte { return binary.AppendUvarint(b, uint64(n)) }
	b := num([]byte{0}, len(outs))
	for _, o := range outs {
		b = num(num(b, int(o.Amount)), len(o.Ways))
		for _, w := range o.Ways {
			b = num(b, len(w.Keys))
			for _, key := range w.Keys {
				b = num(b, key)
			}
			b = num(num(append(b, w.Hash[:]...), w.After), w.Wait)
		}
	}
	return joined(41, append(b, make([]byte, 4+32+1)...))
}

// idsOf are the sums of transactions.
func idsOf(l []api.Tx) []api.Sum {
	var ids []api.Sum
	for _, x := range l {
		ids = append(ids, tx.Sum(x))
	}
	return ids
}

// laid is a block behind a head, put together by hand.
func laid(ahead block.Head, l ...api.Tx) block.Block {
	return block.Block{Head: block.Head{Ahead: headSum(ahead), Height: ahead.Height + 1, Root: rootOf(idsOf(l)), Many: len(l)}, Txs: l}
}

// started is a chain of outs, and the first transaction's sum.
func started(t *testing.T, outs ...api.Out) (*chain.Chain, api.Sum) {
	t.Helper()
	c, id, e := chain.New(outs...)
	if e != api.OK || c == nil {
		t.Fatalf("of %d outs: %v", len(outs), e)
	}
	return c, id
}

// rich is a chain of 16 outs of 1000 each, of the keys 1 to 16.
func rich(t *testing.T) (*chain.Chain, api.Sum) {
	t.Helper()
	return started(t, richOuts()...)
}

// richOuts are rich's outs.
func richOuts() []api.Out {
	var l []api.Out
	for i := range topList {
		l = append(l, lock.To(i+1, 1000))
	}
	return l
}

// at is a place of a transaction.
func at(id api.Sum, n int) api.Ref {
	return api.Ref{Tx: id, At: n}
}

// spending spends a place by a way, and is signed by a key.
func spending(r api.Ref, way, key int, outs ...api.Out) api.Tx {
	return tx.Signed(api.Tx{Ins: []api.In{{Ref: r, Way: way}}, Outs: outs}, key)
}

// pay spends rich's out of a key for another key, and leaves 10 to miners.
func pay(first api.Sum, key, to int) api.Tx {
	return spending(at(first, key-1), 0, key, lock.To(to, 990))
}

// pays are n payments of rich's outs.
func pays(first api.Sum, n int) []api.Tx {
	var l []api.Tx
	for i := range n {
		l = append(l, pay(first, i+1, 100+i))
	}
	return l
}

// line is n transactions, each of which spends the out of the one ahead; the first one spends rich's out of a key.
func line(first api.Sum, key, n int) []api.Tx {
	var l []api.Tx
	r := at(first, key-1)
	for i := range n {
		x := spending(r, 0, key, lock.To(key, int64(999-i)))
		l, r = append(l, x), at(tx.Sum(x), 0)
	}
	return l
}

// told is all that a chain tells; transactions and outs by their bytes, since nil and the empty list are the same.
type told struct {
	height int
	tip    block.Head
	heads  []block.Head
	blocks []block.Head
	txs    []string // of the blocks, and of what came
	at     []int    // the heights of what came
	deep   []int
	refs   []api.Ref
	outs   []string
	ages   []int
	order  []api.Sum
	spent  []ledger.Spend
	fees   int64
	worth  int64
	towers []bond.Tower
	held   []bond.Hold
}

// bytesOf are a transaction's bytes.
func bytesOf(x api.Tx) string {
	b, e := tx.Bytes(x)
	return string(b) + e.Error()
}

// tell asks a chain for all that it tells; heights beyond those that there are, too.
func tell(c *chain.Chain) told {
	w := told{height: c.Height(), tip: c.Tip(), order: c.Order(), fees: c.Fees(), worth: c.Worth()}
	for height := -2; height < w.height+3; height++ {
		h, _ := c.Head(height)
		b, _ := c.Block(height)
		w.heads, w.blocks = append(w.heads, h), append(w.blocks, b.Head)
		for _, x := range b.Txs {
			w.txs = append(w.txs, bytesOf(x))
		}
	}
	for _, id := range w.order {
		d, _ := c.Done(id)
		w.txs, w.at, w.deep = append(w.txs, bytesOf(d.Tx)), append(w.at, d.Height), append(w.deep, c.Deep(id))
		for i := range topList {
			s, _ := c.Spent(at(id, i))
			w.spent = append(w.spent, s)
		}
	}
	for _, r := range c.All() {
		var p wire.Pen
		lock.Put(&p, r.Out)
		w.refs, w.outs, w.ages = append(w.refs, r.Ref), append(w.outs, string(p.Bytes())), append(w.ages, r.Coin.Height)
	}
	w.tellTowers(c)
	return w
}

// tellTowers asks a chain for what its towers have.
func (w *told) tellTowers(c *chain.Chain) {
	for tower := range api.MaxTowers {
		x, _ := c.Board.Get(tower)
		w.towers = append(w.towers, x)
		for channel := range 4 {
			h, _ := c.Holds(tower, channel)
			w.held = append(w.held, h)
		}
	}
}

// isAsTold holds that a chain tells what was told.
func isAsTold(t *testing.T, what string, c *chain.Chain, before told) {
	t.Helper()
	if !reflect.DeepEqual(tell(c), before) {
		t.Errorf("%s: the chain tells other things", what)
	}
}

// copiedTx is a transaction that is alike, and shares no memory.
func copiedTx(x api.Tx) api.Tx {
	x.Ins, x.Outs, x.Signs = slices.Clone(x.Ins), slices.Clone(x.Outs), slices.Clone(x.Signs)
	for i := range x.Ins {
		x.Ins[i].Pre = bytes.Clone(x.Ins[i].Pre)
	}
	for i, o := range x.Outs {
		x.Outs[i].Ways = slices.Clone(o.Ways)
		for j, w := range o.Ways {
			x.Outs[i].Ways[j].Keys = slices.Clone(w.Keys)
		}
	}
	x.Op.Data = bytes.Clone(x.Op.Data)
	return x
}

// copiedTxs are transactions that are alike, and share no memory.
func copiedTxs(l []api.Tx) []api.Tx {
	own := slices.Clone(l)
	for i, x := range l {
		own[i] = copiedTx(x)
	}
	return own
}

// copiedBlock is a block that is alike, and shares no memory.
func copiedBlock(b block.Block) block.Block {
	return block.Block{Head: b.Head, Txs: copiedTxs(b.Txs)}
}

// isRefused holds the error of a block that is not added, of which transaction it is, and that nothing has changed.
func isRefused(t *testing.T, what string, c *chain.Chain, b block.Block, place int, want api.Errno) {
	t.Helper()
	before, handed := tell(c), copiedBlock(b)
	if n, e := c.Add(b); n != place || e != want {
		t.Errorf("%s: %v at %d, want %v at %d", what, e, n, want, place)
	}
	isAsTold(t, what, c, before)
	if !reflect.DeepEqual(b, handed) {
		t.Errorf("%s: the block has changed", what)
	}
}

// isAdded adds a block, and holds that it is the last one, and that its transactions came.
func isAdded(t *testing.T, what string, c *chain.Chain, b block.Block) {
	t.Helper()
	worth, order, handed := c.Worth(), c.Order(), copiedBlock(b)
	if n, e := c.Add(b); n != 0 || e != api.OK {
		t.Fatalf("%s: %v at %d", what, e, n)
	}
	if !reflect.DeepEqual(b, handed) {
		t.Errorf("%s: the block has changed", what)
	}
	if c.Tip() != b.Head || c.Height() != b.Height {
		t.Errorf("%s: the tip is %v, want %v", what, c.Tip(), b.Head)
	}
	isBlock(t, what, c, b.Height, b)
	if got := c.Order(); !slices.Equal(got, slices.Concat(order, idsOf(b.Txs))) {
		t.Errorf("%s: there came %x", what, got)
	}
	for _, x := range b.Txs {
		isDone(t, what, c, x, b.Height)
	}
	if c.Worth() != worth {
		t.Errorf("%s: the worth is %d, and was %d", what, c.Worth(), worth)
	}
}

// isBlock holds the block, and the head, of a height.
func isBlock(t *testing.T, what string, c *chain.Chain, height int, want block.Block) {
	t.Helper()
	if h, ok := c.Head(height); !ok || h != want.Head {
		t.Errorf("%s: the head of %d is %v, %v, want %v", what, height, h, ok, want.Head)
	}
	b, ok := c.Block(height)
	if !ok || b.Head != want.Head || !slices.EqualFunc(b.Txs, want.Txs, tx.Same) {
		t.Errorf("%s: the block of %d is %v, %v, want %v", what, height, b, ok, want)
	}
}

// isNoHeight holds that there is neither a head nor a block of a height.
func isNoHeight(t *testing.T, c *chain.Chain, height int) {
	t.Helper()
	if h, ok := c.Head(height); ok || h != (block.Head{}) {
		t.Errorf("the head of %d is %v, %v", height, h, ok)
	}
	isNoBlock(t, c, height)
}

// isNoBlock holds that there is no block of a height.
func isNoBlock(t *testing.T, c *chain.Chain, height int) {
	t.Helper()
	if b, ok := c.Block(height); ok || !reflect.DeepEqual(b, block.Block{}) {
		t.Errorf("the block of %d is %v, %v", height, b, ok)
	}
}

// isDone holds that a transaction came, at a height.
func isDone(t *testing.T, what string, c *chain.Chain, x api.Tx, height int) {
	t.Helper()
	if d, ok := c.Done(tx.Sum(x)); !ok || d.Height != height || !tx.Same(d.Tx, x) {
		t.Errorf("%s: there came %v, %v, want %v at %d", what, d, ok, x, height)
	}
}

// isMined mines of a list, and holds that just these came, as the next block.
func isMined(t *testing.T, what string, c *chain.Chain, l []api.Tx, want ...api.Tx) {
	t.Helper()
	tip, worth, handed := c.Tip(), c.Worth(), copiedTxs(l)
	ids, e := c.Mine(l...)
	if e != api.OK || !slices.Equal(ids, idsOf(want)) {
		t.Fatalf("%s: %v, %x, want %x", what, e, ids, idsOf(want))
	}
	if !reflect.DeepEqual(l, handed) && len(l) > 0 {
		t.Errorf("%s: the transactions have changed", what)
	}
	b := laid(tip, want...)
	if c.Tip() != b.Head || c.Height() != tip.Height+1 {
		t.Errorf("%s: the tip is %v, want %v", what, c.Tip(), b.Head)
	}
	isBlock(t, what, c, b.Height, b)
	for _, x := range want {
		isDone(t, what, c, x, b.Height)
	}
	if c.Worth() != worth {
		t.Errorf("%s: the worth is %d, and was %d", what, c.Worth(), worth)
	}
}

// spoil writes over all lists that a transaction has.
func spoil(x api.Tx) {
	for i := range x.Ins {
		clear(x.Ins[i].Pre)
	}
	for i := range x.Outs {
		for j := range x.Outs[i].Ways {
			clear(x.Outs[i].Ways[j].Keys)
		}
		clear(x.Outs[i].Ways)
	}
	clear(x.Ins)
	clear(x.Outs)
	clear(x.Signs)
	clear(x.Op.Data)
}

// spoilAll writes over transactions, and the list of them.
func spoilAll(l []api.Tx) {
	for _, x := range l {
		spoil(x)
	}
	clear(l)
}

// flipped is a sum of which one bit is another one.
func flipped(s api.Sum, bit int) api.Sum {
	s[bit/8] ^= 1 << (bit % 8)
	return s
}

// full is the sum all of whose bits are 1.
func full() api.Sum {
	var s api.Sum
	for i := range s {
		s[i] = 0xff
	}
	return s
}
