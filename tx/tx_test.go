package tx_test

import (
	"bytes"
	"math"
	"slices"
	"testing"

	"bartizan/api"
	"bartizan/lock"
	"bartizan/tx"
)

// The greatest ones that may be, written out.
const (
	topAmount  = 1125899906842624
	topChannel = 1048576
	topData    = 65536
	topHeight  = 1073741824
	topKey     = 255
	topKind    = 7
	topList    = 16
	topPlace   = 15
	topPre     = 64
	topTower   = 15
)

// full is the sum all of whose bits are 1.
func full() api.Sum {
	var s api.Sum
	for i := range s {
		s[i] = 0xff
	}
	return s
}

// insOf are n ins of unlike places.
func insOf(n int) []api.In {
	l := make([]api.In, n)
	for i := range l {
		l[i] = api.In{Ref: api.Ref{Tx: api.Sum{0: byte(i / 3), 31: 7}, At: i % 3}, Way: i % topList, Pre: bytes.Repeat([]byte{byte(i)}, i%topPre)}
	}
	return l
}

// outsOf are n outs that may be.
func outsOf(n int) []api.Out {
	l := make([]api.Out, n)
	for i := range l {
		l[i] = lock.To(i%(topKey+1), int64(i)*1000)
	}
	return l
}

// signsOf are n signs, whose keys rise to last.
func signsOf(n, last int) []api.Sign {
	l := make([]api.Sign, n)
	for i := range l {
		l[i] = api.Sign{Key: last - n + 1 + i, Of: api.Sum{0: byte(i), 31: 1}}
	}
	return l
}

// rightOps are ops that may be, with the edges.
func rightOps() []api.Op {
	return []api.Op{
		{},
		{Data: []byte{}},
		{Kind: api.OpBond},
		{Kind: api.OpHold, Tower: 3, Channel: 300, Amount: 5000, Root: api.Sum{9}, Data: []byte("a channel")},
		{Kind: api.OpFree, Tower: topTower},
		{Kind: api.OpAsk, Channel: topChannel},
		{Kind: api.OpTake, Amount: topAmount},
		{Kind: api.OpProve, Data: make([]byte, topData)},
		{Kind: api.OpSettle, Root: full()},
		{Kind: topKind, Tower: topTower, Channel: topChannel, Amount: topAmount, Root: full(), Data: bytes.Repeat([]byte{0xff}, topData)},
	}
}

// wrongOps are ops that may not be.
func wrongOps() []api.Op {
	l := []api.Op{
		{Tower: 1},
		{Tower: -1},
		{Channel: 1},
		{Channel: -1},
		{Amount: 1},
		{Amount: -1},
		{Root: api.Sum{0: 1}},
		{Root: api.Sum{31: 1}},
		{Data: []byte{0}},
		{Data: make([]byte, topData+1)},
		{Tower: 2, Channel: 3, Amount: 4, Root: api.Sum{5}, Data: []byte{6}},
	}
	for _, kind := range []int{-1, math.MinInt, topKind + 1, 256, 257, 1 << 32, math.MaxInt} {
		l = append(l, api.Op{Kind: kind}, api.Op{Kind: kind, Tower: 1, Amount: 5})
	}
	for kind := 1; kind <= topKind; kind++ {
		for _, n := range []int{-1, math.MinInt, topTower + 1, 256, 1 << 32, math.MaxInt} {
			l = append(l, api.Op{Kind: kind, Tower: n})
		}
		for _, n := range []int{-1, math.MinInt, topChannel + 1, 1 << 32, math.MaxInt} {
			l = append(l, api.Op{Kind: kind, Channel: n})
		}
		for _, n := range []int64{-1, math.MinInt64, topAmount + 1, 1 << 62, math.MaxInt64} {
			l = append(l, api.Op{Kind: kind, Amount: n})
		}
		l = append(l, api.Op{Kind: kind, Data: make([]byte, topData+1)})
	}
	return l
}

// wrongIns are ins that may not be.
func wrongIns() []api.In {
	var l []api.In
	for _, n := range []int{-1, math.MinInt, topPlace + 1, 256, 1 << 32, math.MaxInt} {
		l = append(l, api.In{Ref: api.Ref{At: n}}, api.In{Way: n}, api.In{Ref: api.Ref{Tx: api.Sum{8}, At: n}, Way: 3}, api.In{Ref: api.Ref{At: 3}, Way: n})
	}
	return append(l, api.In{Pre: make([]byte, topPre+1)}, api.In{Pre: make([]byte, 1000)})
}

// wrongOuts are outs that may not be.
func wrongOuts() []api.Out {
	return []api.Out{
		{},
		{Amount: 5},
		lock.To(1, -1),
		lock.To(1, topAmount+1),
		lock.To(-1, 5),
		lock.To(topKey+1, 5),
		{Ways: make([]api.Way, topList+1)},
		{Ways: []api.Way{{}, {Keys: []int{2, 2}}}},
		{Ways: []api.Way{{Keys: []int{2, 1}}}},
		{Ways: []api.Way{{After: -1}}},
		{Ways: []api.Way{{Wait: topHeight + 1}}},
	}
}

// wrongSigns are signs that don't rise, or whose keys may not be.
func wrongSigns() [][]api.Sign {
	l := [][]api.Sign{
		signsOf(topList+1, topKey),
		append(signsOf(topList-1, 40), api.Sign{Key: 40}),
	}
	for _, keys := range [][]int{{-1}, {math.MinInt}, {topKey + 1}, {1 << 32}, {math.MaxInt}, {5, 5}, {0, 0}, {topKey, topKey}, {6, 5}, {1, 0}, {-1, 0}, {0, topKey + 1}, {1, 2, 4, 3}, {2, 1, 3}, {1, 2, 2, 3}, {1, -1}} {
		signs := make([]api.Sign, len(keys))
		for i, key := range keys {
			signs[i] = api.Sign{Key: key, Of: api.Sum{byte(i)}}
		}
		l = append(l, signs)
	}
	return l
}

// rightTxs are transactions that may be, with the edges.
func rightTxs() []api.Tx {
	many := api.Out{Amount: topAmount, Ways: slices.Repeat([]api.Way{{Keys: []int{0, 200, topKey}, Hash: full(), After: topHeight, Wait: 300}}, topList)}
	l := []api.Tx{
		{Ins: insOf(1)},
		{Ins: []api.In{{}}},
		{Ins: insOf(1), Outs: outsOf(1), Signs: signsOf(1, 0)},
		{Ins: insOf(2), Outs: outsOf(3), Signs: signsOf(2, topKey)},
		{Ins: insOf(topList), Outs: outsOf(topList), Signs: signsOf(topList, topKey)},
		{Ins: insOf(topList), Outs: slices.Repeat([]api.Out{many}, topList), Op: rightOps()[9], Signs: signsOf(topList, topList-1)},
		{Ins: []api.In{{Ref: api.Ref{Tx: full(), At: topPlace}, Way: topPlace, Pre: bytes.Repeat([]byte{0xff}, topPre)}}},
		{Ins: []api.In{{Ref: api.Ref{At: 1}}, {Ref: api.Ref{At: 0}}, {Ref: api.Ref{Tx: api.Sum{31: 1}, At: 1}}}},
		{Outs: outsOf(2), Op: api.Op{Kind: api.OpTake}},
		{Outs: []api.Out{many}, Op: api.Op{Kind: api.OpSettle}, Signs: signsOf(3, 130)},
	}
	for i, o := range rightOps() {
		l = append(l, api.Tx{Ins: insOf(1 + i), Outs: outsOf(i), Op: o, Signs: signsOf(i%3, 100)})
		if o.Kind != api.OpNone {
			l = append(l, api.Tx{Op: o})
		}
	}
	return l
}

// wrongTxs are transactions that may not be.
func wrongTxs() []api.Tx {
	l := []api.Tx{
		{},
		{Ins: []api.In{}, Outs: outsOf(1), Signs: signsOf(1, 5)},
		{Ins: insOf(topList + 1)},
		{Ins: insOf(1000)},
		{Ins: insOf(1), Outs: outsOf(topList + 1)},
		{Ins: insOf(1), Signs: signsOf(topList+1, topKey)},
		{Ins: insOf(1), Op: api.Op{Tower: 1}},
	}
	for _, o := range wrongOps() {
		l = append(l, api.Tx{Op: o}, api.Tx{Ins: insOf(2), Outs: outsOf(1), Op: o})
	}
	for _, in := range wrongIns() {
		l = append(l, api.Tx{Ins: []api.In{in}}, api.Tx{Ins: append(insOf(3), in), Op: rightOps()[2]})
	}
	for _, o := range wrongOuts() {
		l = append(l, api.Tx{Ins: insOf(1), Outs: []api.Out{o}}, api.Tx{Ins: insOf(1), Outs: append(outsOf(topList-1), o)}, api.Tx{Outs: []api.Out{o, lock.To(1, 2)}, Op: rightOps()[2]})
	}
	for _, signs := range wrongSigns() {
		l = append(l, api.Tx{Ins: insOf(1), Signs: signs}, api.Tx{Op: rightOps()[3], Signs: signs})
	}
	return append(l, twice()...)
}

// twice are transactions that spend an out twice.
func twice() []api.Tx {
	var l []api.Tx
	for i := range topList {
		for j := range i {
			ins := insOf(topList)
			ins[i] = api.In{Ref: ins[j].Ref, Way: 9, Pre: []byte("otherwise")}
			l = append(l, api.Tx{Ins: ins})
		}
	}
	return append(l, api.Tx{Ins: make([]api.In, 2)}, api.Tx{Ins: slices.Repeat(insOf(1), 2), Op: rightOps()[3]})
}

// clone is a transaction that is alike, in other memory.
func clone(t api.Tx) api.Tx {
	c := api.Tx{Op: t.Op}
	c.Op.Data = append([]byte(nil), t.Op.Data...)
	for _, in := range t.Ins {
		in.Pre = append([]byte(nil), in.Pre...)
		c.Ins = append(c.Ins, in)
	}
	for _, o := range t.Outs {
		var ways []api.Way
		for _, w := range o.Ways {
			w.Keys = append([]int(nil), w.Keys...)
			ways = append(ways, w)
		}
		c.Outs = append(c.Outs, api.Out{Amount: o.Amount, Ways: ways})
	}
	c.Signs = append(c.Signs, t.Signs...)
	return c
}

// isAlike tells whether two transactions have the same of all, whether they may be or not.
func isAlike(a, b api.Tx) bool {
	in := func(a, b api.In) bool { return a.Ref == b.Ref && a.Way == b.Way && bytes.Equal(a.Pre, b.Pre) }
	return isAlikeOp(a.Op, b.Op) && slices.EqualFunc(a.Ins, b.Ins, in) && slices.EqualFunc(a.Outs, b.Outs, lock.Same) && slices.Equal(a.Signs, b.Signs)
}

func isAlikeOp(a, b api.Op) bool {
	return a.Kind == b.Kind && a.Tower == b.Tower && a.Channel == b.Channel && a.Amount == b.Amount && a.Root == b.Root && bytes.Equal(a.Data, b.Data)
}

func Test8_1RightOp(t *testing.T) {
	for _, o := range rightOps() {
		if !tx.RightOp(o) {
			t.Errorf("the op of kind %d, tower %d, channel %d, amount %d may not be", o.Kind, o.Tower, o.Channel, o.Amount)
		}
	}
	for _, o := range wrongOps() {
		if tx.RightOp(o) {
			t.Errorf("the op of kind %d, tower %d, channel %d, amount %d, %d bytes may be", o.Kind, o.Tower, o.Channel, o.Amount, len(o.Data))
		}
	}
}

// Each kind, with each field around its bounds, one by one.
func Test8_1OpsAroundTheirBounds(t *testing.T) {
	for kind := -3; kind < 12; kind++ {
		other := kind >= 1 && kind <= 7
		hold := func(want bool, o api.Op) {
			t.Helper()
			o.Kind = kind
			if got := tx.RightOp(o); got != want {
				t.Errorf("the op of kind %d, tower %d, channel %d, amount %d, %d bytes may be: %v", kind, o.Tower, o.Channel, o.Amount, len(o.Data), got)
			}
		}
		hold(kind >= 0 && kind <= 7, api.Op{})
		hold(other, api.Op{Root: api.Sum{4: 4}})
		for _, n := range []int{1, topTower - 1, topTower} {
			hold(other, api.Op{Tower: n})
		}
		for _, n := range []int{1, 300, topChannel - 1, topChannel} {
			hold(other, api.Op{Channel: n})
		}
		for _, n := range []int64{1, 1 << 40, topAmount - 1, topAmount} {
			hold(other, api.Op{Amount: n})
		}
		for _, n := range []int{1, 2, topData - 1, topData} {
			hold(other, api.Op{Data: make([]byte, n)})
		}
		hold(false, api.Op{Tower: topTower + 1})
		hold(false, api.Op{Channel: topChannel + 1})
		hold(false, api.Op{Amount: topAmount + 1})
		hold(false, api.Op{Data: make([]byte, topData+1)})
	}
}

func Test8_1Right(t *testing.T) {
	for i, x := range rightTxs() {
		if !tx.Right(x) {
			t.Errorf("transaction %d may not be: %v", i, x.Ins)
		}
	}
	for i, x := range wrongTxs() {
		if tx.Right(x) {
			t.Errorf("transaction %d may be: %d ins, %d outs, op %d, %d signs", i, len(x.Ins), len(x.Outs), x.Op.Kind, len(x.Signs))
		}
	}
}

func Test8_1HowManyThereMayBe(t *testing.T) {
	for n := range 20 {
		for _, kind := range []int{api.OpNone, api.OpFree} {
			op := api.Op{Kind: kind}
			for want, x := range map[int]api.Tx{
				0: {Ins: insOf(n), Op: op},
				1: {Ins: insOf(1), Outs: outsOf(n), Op: op},
				2: {Ins: insOf(1), Signs: signsOf(n, topKey), Op: op},
			} {
				may := n <= topList && (len(x.Ins) > 0 || kind != api.OpNone)
				if got := tx.Right(x); got != may {
					t.Errorf("%d of list %d, of an op of the kind %d, may be: %v", n, want, kind, got)
				}
			}
		}
	}
}

func Test8_1InsAroundTheirBounds(t *testing.T) {
	for at := -2; at < 19; at++ {
		for way := -2; way < 19; way++ {
			for _, n := range []int{0, 1, topPre - 1, topPre, topPre + 1} {
				want := at >= 0 && at <= topPlace && way >= 0 && way <= topPlace && n <= topPre
				x := api.Tx{Ins: []api.In{{Ref: api.Ref{At: at}, Way: way, Pre: make([]byte, n)}}}
				if got := tx.Right(x); got != want {
					t.Errorf("the in of the place %d by the way %d with %d bytes may be: %v", at, way, n, got)
				}
			}
		}
	}
}

// A place is a sum and where: alike in one of both are unlike places.
func Test8_1NoOutIsSpentTwice(t *testing.T) {
	for _, x := range twice() {
		if tx.Right(x) {
			t.Errorf("an out is spent twice: %v", x.Ins)
		}
	}
	var ins []api.In
	for i := range topList {
		ins = append(ins, api.In{Ref: api.Ref{Tx: api.Sum{31: byte(i / 4)}, At: i % 4}})
	}
	if !tx.Right(api.Tx{Ins: ins}) {
		t.Error("unlike outs may not be spent")
	}
}

// Of two signs just those may be of which the second one's key is above.
func Test8_1SignsRise(t *testing.T) {
	for a := -2; a < 260; a++ {
		for b := -2; b < 260; b++ {
			want := a >= 0 && a < b && b <= topKey
			x := api.Tx{Ins: []api.In{{}}, Signs: []api.Sign{{Key: a, Of: api.Sum{5}}, {Key: b, Of: api.Sum{4}}}}
			if got := tx.Right(x); got != want {
				t.Errorf("the signs of %d and %d may be: %v", a, b, got)
			}
		}
		x := api.Tx{Ins: []api.In{{}}, Signs: []api.Sign{{Key: a}}}
		if got := tx.Right(x); got != (a >= 0 && a <= topKey) {
			t.Errorf("the sign of %d may be: %v", a, got)
		}
	}
}

func areKeys(t *testing.T, x api.Tx, want ...int) {
	t.Helper()
	if got := tx.Keys(x); !slices.Equal(got, want) {
		t.Errorf("the keys %v signed, want %v", got, want)
	}
}

func Test8_1Keys(t *testing.T) {
	x := api.Tx{Ins: insOf(2), Outs: outsOf(1)}
	areKeys(t, x)
	of := tx.Sum(x)
	almost := of
	almost[31] ^= 1
	for _, c := range []struct {
		signs []api.Sign
		want  []int
	}{
		{[]api.Sign{}, nil},
		{[]api.Sign{{Key: 7, Of: of}}, []int{7}},
		{[]api.Sign{{Key: 0, Of: of}, {Key: topKey, Of: of}}, []int{0, topKey}},
		{[]api.Sign{{Key: 7}}, nil},
		{[]api.Sign{{Key: 7, Of: almost}}, nil},
		{[]api.Sign{{Key: 1, Of: of}, {Key: 2, Of: almost}, {Key: 3, Of: of}}, []int{1, 3}},
		{[]api.Sign{{Key: 9, Of: of}, {Key: 2, Of: of}, {Key: 5, Of: of}}, []int{9, 2, 5}},
		{[]api.Sign{{Key: 4, Of: of}, {Key: 4, Of: almost}, {Key: 4, Of: of}, {Key: 1, Of: of}, {Key: 4, Of: of}}, []int{4, 4, 1, 4}},
		{[]api.Sign{{Key: -1, Of: of}, {Key: 300, Of: of}, {Key: math.MinInt, Of: of}, {Key: math.MaxInt, Of: of}}, []int{-1, 300, math.MinInt, math.MaxInt}},
	} {
		x.Signs = c.signs
		areKeys(t, x, c.want...)
	}
}

// Who signed a transaction signed no other one, but those that show something else, or that others signed.
func Test8_1KeysSignJustThis(t *testing.T) {
	x := tx.Signed(rightTxs()[3], 4, 9)
	areKeys(t, x, 4, 9)
	shown := clone(x)
	shown.Ins[0].Pre = []byte("something else")
	shown.Ins[1].Pre = nil
	areKeys(t, shown, 4, 9)
	for _, c := range changes() {
		other := clone(x)
		c(&other)
		areKeys(t, other)
	}
}

// changes each change a transaction of an in, an out with a way with a key, to one of another sum.
func changes() []func(x *api.Tx) {
	return []func(x *api.Tx){
		func(x *api.Tx) { x.Ins = append(x.Ins, api.In{}) },
		func(x *api.Tx) { x.Ins = x.Ins[1:] },
		func(x *api.Tx) { x.Ins[0].Ref.Tx[0] ^= 1 },
		func(x *api.Tx) { x.Ins[0].Ref.Tx[31] ^= 0x80 },
		func(x *api.Tx) { x.Ins[0].Ref.At++ },
		func(x *api.Tx) { x.Ins[0].Way++ },
		func(x *api.Tx) { x.Outs = append(x.Outs, lock.To(1, 0)) },
		func(x *api.Tx) { x.Outs = x.Outs[1:] },
		func(x *api.Tx) { x.Outs[0].Amount++ },
		func(x *api.Tx) { x.Outs[0].Ways = append(x.Outs[0].Ways, api.Way{}) },
		func(x *api.Tx) { x.Outs[0].Ways[0].Keys[0]++ },
		func(x *api.Tx) { x.Outs[0].Ways[0].Keys = append(x.Outs[0].Ways[0].Keys, 200) },
		func(x *api.Tx) { x.Outs[0].Ways[0].Hash[5] ^= 1 },
		func(x *api.Tx) { x.Outs[0].Ways[0].After++ },
		func(x *api.Tx) { x.Outs[0].Ways[0].Wait++ },
		func(x *api.Tx) { x.Op.Kind++ },
		func(x *api.Tx) { x.Op.Tower++ },
		func(x *api.Tx) { x.Op.Channel++ },
		func(x *api.Tx) { x.Op.Amount++ },
		func(x *api.Tx) { x.Op.Root[31] ^= 1 },
		func(x *api.Tx) { x.Op.Data = append(x.Op.Data, 0) },
	}
}

// modelSigned are the signs that Signed has to tell, found one key behind the other.
func modelSigned(signs []api.Sign, of api.Sum, keys []int) []api.Sign {
	var all []int
	for _, s := range signs {
		all = append(all, s.Key)
	}
	all = append(all, keys...)
	slices.Sort(all)
	var l []api.Sign
	for _, key := range slices.Compact(all) {
		if slices.Contains(keys, key) {
			l = append(l, api.Sign{Key: key, Of: of})
			continue
		}
		for _, s := range signs {
			if s.Key == key {
				l = append(l, s)
			}
		}
	}
	return l
}

// isSigned holds what Signed tells against the model; all but the signs stays.
func isSigned(t *testing.T, x api.Tx, keys ...int) {
	t.Helper()
	handed, said := clone(x), slices.Clone(keys)
	got := tx.Signed(x, keys...)
	if !isAlike(x, handed) || !slices.Equal(keys, said) {
		t.Errorf("what was handed in has changed")
	}
	want := clone(x)
	want.Signs = modelSigned(x.Signs, sumOf(x), keys)
	if !isAlike(got, want) {
		t.Errorf("%v, signed by %v, is %v, want %v", x.Signs, keys, got.Signs, want.Signs)
	}
}

func Test8_2Signed(t *testing.T) {
	x := api.Tx{Ins: insOf(1), Outs: outsOf(2)}
	of := sumOf(x)
	got := tx.Signed(x, 9, 2, 5)
	if want := []api.Sign{{Key: 2, Of: of}, {Key: 5, Of: of}, {Key: 9, Of: of}}; !slices.Equal(got.Signs, want) {
		t.Errorf("the signs are %v, want %v", got.Signs, want)
	}
	got = tx.Signed(got, 7, 5, 0)
	if want := []api.Sign{{Key: 0, Of: of}, {Key: 2, Of: of}, {Key: 5, Of: of}, {Key: 7, Of: of}, {Key: 9, Of: of}}; !slices.Equal(got.Signs, want) {
		t.Errorf("the signs are %v, want %v", got.Signs, want)
	}
	areKeys(t, got, 0, 2, 5, 7, 9)
	if !tx.Right(got) || tx.Sum(got) != of {
		t.Error("what is signed may not be, or is another one")
	}
	got = tx.Signed(x)
	if len(got.Signs) != 0 || !tx.Same(got, x) {
		t.Errorf("signed by nobody has signs: %v", got.Signs)
	}
}

func Test8_2SignedOnce(t *testing.T) {
	x := api.Tx{Ins: insOf(1)}
	got := tx.Signed(x, 5, 5, 1, 5, 1)
	if want := []api.Sign{{Key: 1, Of: sumOf(x)}, {Key: 5, Of: sumOf(x)}}; !slices.Equal(got.Signs, want) {
		t.Errorf("the signs are %v, want %v", got.Signs, want)
	}
}

func Test8_2SignsOfOtherKeysStay(t *testing.T) {
	x := api.Tx{Ins: insOf(1), Signs: []api.Sign{{Key: 3, Of: api.Sum{1}}, {Key: 6, Of: api.Sum{2}}, {Key: 8, Of: api.Sum{3}}}}
	got := tx.Signed(x, 6)
	want := []api.Sign{{Key: 3, Of: api.Sum{1}}, {Key: 6, Of: sumOf(x)}, {Key: 8, Of: api.Sum{3}}}
	if !slices.Equal(got.Signs, want) {
		t.Errorf("the signs are %v, want %v", got.Signs, want)
	}
	areKeys(t, got, 6)
}

// Signs that don't rise are put in order; those of one key stay in theirs.
func Test8_2SignsArePutInOrder(t *testing.T) {
	x := api.Tx{Ins: insOf(1), Signs: []api.Sign{{Key: 8, Of: api.Sum{1}}, {Key: 3, Of: api.Sum{9}}, {Key: 8, Of: api.Sum{0}}, {Key: 3, Of: api.Sum{2}}, {Key: 8, Of: api.Sum{3}}, {Key: -1}, {Key: math.MaxInt}, {Key: math.MinInt}}}
	isSigned(t, x)
	isSigned(t, x, 5)
	isSigned(t, x, 3)
	isSigned(t, x, 8, 3)
	isSigned(t, x, -1, math.MaxInt, math.MinInt)
	got := tx.Signed(x, 3).Signs
	want := []api.Sign{{Key: math.MinInt}, {Key: -1}, {Key: 3, Of: sumOf(x)}, {Key: 8, Of: api.Sum{1}}, {Key: 8, Of: api.Sum{0}}, {Key: 8, Of: api.Sum{3}}, {Key: math.MaxInt}}
	if !slices.Equal(got, want) {
		t.Errorf("the signs are %v, want %v", got, want)
	}
}

func Test8_2ManySignsOfOneKeyStayInOrder(t *testing.T) {
	x := api.Tx{Ins: insOf(1)}
	for i := range 1000 {
		x.Signs = append(x.Signs, api.Sign{Key: i % 3, Of: api.Sum{byte(i / 256), byte(i)}})
	}
	isSigned(t, x)
	isSigned(t, x, 1, 7)
}

// All lists of up to three signs, of up to three keys, and of keys that sign.
func Test8_2SignedOfAllKinds(t *testing.T) {
	lists := [][]int{nil}
	for from := 0; from < len(lists); from++ {
		if len(lists[from]) < 3 {
			for key := range 3 {
				lists = append(lists, append(slices.Clone(lists[from]), key))
			}
		}
	}
	for _, had := range lists {
		x := api.Tx{Ins: insOf(1)}
		for i, key := range had {
			x.Signs = append(x.Signs, api.Sign{Key: key, Of: api.Sum{byte(i)}})
		}
		for _, keys := range lists {
			isSigned(t, x, keys...)
		}
	}
}

func Test8_2SignedWhateverMayBe(t *testing.T) {
	for _, x := range slices.Concat(rightTxs(), wrongTxs()) {
		isSigned(t, x)
		isSigned(t, x, 7)
		isSigned(t, x, topKey+1, -1, 100, 0, 100)
	}
}

func Test8_2SignedByVeryMany(t *testing.T) {
	const many = 1 << 17
	keys := make([]int, 2*many)
	for i := range keys {
		keys[i] = many - 1 - i/2
	}
	x := api.Tx{Ins: insOf(1), Signs: signsOf(many, many-1)}
	got := tx.Signed(x, keys...)
	if len(got.Signs) != many || len(tx.Keys(got)) != many || got.Signs[0].Key != 0 {
		t.Errorf("of %d keys there are %d signs", many, len(got.Signs))
	}
}

func Test8_2WhatIsSignedIsNewMemory(t *testing.T) {
	x := rightTxs()[4]
	x.Op = rightOps()[3]
	x.Signs = append(make([]api.Sign, 0, 40), x.Signs[:3]...)
	handed := clone(x)
	got := tx.Signed(x, 1, 250)
	got.Ins[1].Pre[0]++
	got.Ins[0].Way = 9
	got.Outs[0].Ways[0].Keys[0] = 77
	got.Outs[0].Ways[0].Wait = 5
	got.Outs[1].Amount = 1
	got.Op.Data[0]++
	for i := range got.Signs {
		got.Signs[i].Key = 66
	}
	if !isAlike(x, handed) || x.Signs[:4][3] != (api.Sign{}) {
		t.Error("what was handed in has changed")
	}
}
