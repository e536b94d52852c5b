package appoint_test

import (
	"bytes"
	"crypto/sha256"
	"encoding/hex"
	"reflect"
	"slices"
	"testing"

	"bartizan/api"
)

// The greatest ones that may be, written out.
const (
	topAmount = 1125899906842624
	topBlob   = 65552 // bytes that a tower can uncover
	topHeight = 1073741824
	topNumber = 1048576 // of a channel, and of a state
	topText   = 65536   // bytes of a text that is covered, or read
)

// full is the sum all of whose bits are 1.
func full() api.Sum {
	var s api.Sum
	for i := range s {
		s[i] = 0xff
	}
	return s
}

// risingSum is the sum of the bytes 0 to 31.
func risingSum() api.Sum {
	var s api.Sum
	for i := range s {
		s[i] = byte(i)
	}
	return s
}

// sums are unlike sums, with the least and the greatest one.
func sums() []api.Sum {
	return []api.Sum{{}, full(), risingSum(), {1}, {31: 1}}
}

// noise is n bytes of which no two neighbours are alike.
func noise(n int) []byte {
	b := make([]byte, n)
	for i := range b {
		b[i] = byte(i*7 + i/256)
	}
	return b
}

// joined is Join, by the library's SHA-256.
func joined(tag byte, parts ...[]byte) api.Sum {
	b := []byte{tag}
	for _, p := range parts {
		n := len(p)
		b = append(b, byte(n>>24), byte(n>>16), byte(n>>8), byte(n))
		b = append(b, p...)
	}
	return sha256.Sum256(b)
}

// hintOf, keyOf and markOf are the three sums of this layer, each under its tag, written out.
func hintOf(commit api.Sum) api.Sum { return joined(71, commit[:]) }

func keyOf(commit api.Sum) api.Sum { return joined(72, commit[:]) }

func markOf(blob []byte) api.Sum { return joined(73, blob) }

// hexOf is the library's SHA-256 of bytes, as it is written.
func hexOf(b []byte) string {
	s := sha256.Sum256(b)
	return hex.EncodeToString(s[:])
}

// closed is what a text is covered to under a key.
func closed(key api.Sum, text []byte) []byte {
	mark := joined(52, key[:], text)
	b := slices.Clone(mark[:16])
	var s api.Sum
	for i, x := range text {
		if i%32 == 0 {
			n := i / 32
			s = joined(51, key[:], []byte{byte(n >> 16), byte(n >> 8), byte(n)})
		}
		b = append(b, x^s[i%32])
	}
	return b
}

// num is a number's bytes, those below 0 as 0.
func num(n int) []byte {
	var b []byte
	rest := max(n, 0)
	for ; rest >= 128; rest /= 128 {
		b = append(b, byte(rest%128+128))
	}
	return append(b, byte(rest))
}

// asText is a text's bytes.
func asText(b []byte) []byte {
	return append(num(len(b)), b...)
}

// packedOut is an out's bytes.
func packedOut(o api.Out) []byte {
	b := slices.Concat(num(int(o.Amount)), num(len(o.Ways)))
	for _, w := range o.Ways {
		b = append(b, num(len(w.Keys))...)
		for _, key := range w.Keys {
			b = append(b, num(key)...)
		}
		b = slices.Concat(b, w.Hash[:], num(w.After), num(w.Wait))
	}
	return b
}

// packed is a transaction's bytes.
func packed(x api.Tx) []byte {
	b := num(len(x.Ins))
	for _, in := range x.Ins {
		b = slices.Concat(b, in.Ref.Tx[:], num(in.Ref.At), num(in.Way), asText(in.Pre))
	}
	b = append(b, num(len(x.Outs))...)
	for _, o := range x.Outs {
		b = append(b, packedOut(o)...)
	}
	o := x.Op
	b = slices.Concat(b, num(o.Kind), num(o.Tower), num(o.Channel), num(int(o.Amount)), o.Root[:], asText(o.Data), num(len(x.Signs)))
	for _, s := range x.Signs {
		b = slices.Concat(b, num(s.Key), s.Of[:])
	}
	return b
}

// paid is an out to a key.
func paid(key int, n int64) api.Out {
	return api.Out{Amount: n, Ways: []api.Way{{Keys: []int{key}}}}
}

// least is the transaction of one in, and of nothing else.
func least() api.Tx {
	return api.Tx{Ins: []api.In{{}}}
}

// rich is a transaction that has some of all.
func rich() api.Tx {
	return api.Tx{
		Ins:   []api.In{{Ref: api.Ref{Tx: full(), At: 3}, Way: 1, Pre: []byte("shown")}, {Ref: api.Ref{Tx: risingSum(), At: 15}}},
		Outs:  []api.Out{paid(7, 300), {Amount: topAmount, Ways: []api.Way{{Keys: []int{1, 200}, Hash: full(), After: 5, Wait: 6}, {}}}},
		Op:    api.Op{Kind: api.OpHold, Tower: 15, Channel: 300, Amount: 1000, Root: risingSum(), Data: []byte("data")},
		Signs: []api.Sign{{Key: 5, Of: full()}, {Key: 255, Of: risingSum()}},
	}
}

// long is a transaction without an in, with n bytes of data.
func long(n int) api.Tx {
	return api.Tx{Op: api.Op{Kind: api.OpProve, Tower: 3, Channel: topNumber, Amount: topAmount, Root: full(), Data: noise(n)}}
}

// crowded is a transaction that has as many of all as may be.
func crowded() api.Tx {
	x := api.Tx{Op: api.Op{Kind: api.OpSettle}}
	way := api.Way{Keys: []int{0, 1, 2, 3, 4, 5, 6, 7, 8, 9, 10, 11, 12, 128, 200, 255}, Hash: full(), After: topHeight, Wait: topHeight}
	for i := range 16 {
		x.Ins = append(x.Ins, api.In{Ref: api.Ref{Tx: risingSum(), At: i}, Way: 15 - i, Pre: noise(4*i + 4)})
		x.Outs = append(x.Outs, api.Out{Amount: topAmount - int64(i), Ways: slices.Repeat([]api.Way{way}, 16)})
		x.Signs = append(x.Signs, api.Sign{Key: 240 + i, Of: api.Sum{byte(i)}})
	}
	return x
}

// ofLength is a transaction that may be, whose bytes are n (from 16500 on).
func ofLength(t *testing.T, n int, x api.Tx) api.Tx {
	t.Helper()
	x.Op.Data = make([]byte, 16384)
	x.Op.Data = noise(n - len(packed(x)) + 16384)
	if len(packed(x)) != n {
		t.Fatalf("its bytes are %d, and not %d", len(packed(x)), n)
	}
	return x
}

// rightTxs are transactions that may be, whose bytes are few enough.
func rightTxs() []api.Tx {
	return []api.Tx{
		least(), rich(), crowded(), long(0), long(1), long(31), long(1000), long(65000),
		{Ins: []api.In{{Ref: api.Ref{Tx: full(), At: 15}, Way: 15, Pre: make([]byte, 64)}}},
		{Ins: []api.In{{Pre: noise(32)}}, Outs: []api.Out{paid(1, 81), paid(103, 9)}, Signs: []api.Sign{{Key: 1}}},
		{Outs: []api.Out{paid(0, 0), paid(255, topAmount)}, Op: api.Op{Kind: api.OpTake}},
	}
}

// wrongTxs are transactions that may not be.
func wrongTxs() []api.Tx {
	l := []api.Tx{
		{},
		{Outs: []api.Out{paid(1, 2)}, Signs: []api.Sign{{Key: 1}}},
		{Ins: make([]api.In, 2)},
		{Ins: make([]api.In, 17)},
		{Op: api.Op{Kind: 8}},
		{Op: api.Op{Kind: -1}},
		long(topText + 1),
	}
	for _, change := range []func(x *api.Tx){
		func(x *api.Tx) { x.Ins[0].Ref.At = -1 },
		func(x *api.Tx) { x.Ins[1].Ref.At = 16 },
		func(x *api.Tx) { x.Ins[0].Way = 16 },
		func(x *api.Tx) { x.Ins[0].Pre = make([]byte, 65) },
		func(x *api.Tx) { x.Ins[1].Ref = x.Ins[0].Ref },
		func(x *api.Tx) { x.Outs[0].Amount = -1 },
		func(x *api.Tx) { x.Outs[1].Amount++ },
		func(x *api.Tx) { x.Outs[0].Ways = nil },
		func(x *api.Tx) { x.Outs[1].Ways[0].Keys = []int{200, 1} },
		func(x *api.Tx) { x.Outs = slices.Repeat(x.Outs, 9) },
		func(x *api.Tx) { x.Op.Kind = 0 },
		func(x *api.Tx) { x.Op.Tower = 16 },
		func(x *api.Tx) { x.Op.Channel = topNumber + 1 },
		func(x *api.Tx) { x.Op.Amount = -5 },
		func(x *api.Tx) { x.Signs[1].Key = 5 },
		func(x *api.Tx) { x.Signs[1].Key = 256 },
		func(x *api.Tx) { x.Signs[0].Key = -1 },
	} {
		x := rich()
		change(&x)
		l = append(l, x)
	}
	return l
}

// copied is a transaction that is alike, and shares no memory.
func copied(x api.Tx) api.Tx {
	x.Ins, x.Outs, x.Signs = slices.Clone(x.Ins), slices.Clone(x.Outs), slices.Clone(x.Signs)
	for i := range x.Ins {
		x.Ins[i].Pre = bytes.Clone(x.Ins[i].Pre)
	}
	for i := range x.Outs {
		x.Outs[i].Ways = slices.Clone(x.Outs[i].Ways)
		for j, w := range x.Outs[i].Ways {
			x.Outs[i].Ways[j].Keys = slices.Clone(w.Keys)
		}
	}
	x.Op.Data = bytes.Clone(x.Op.Data)
	return x
}

// spoil writes over all the lists of a transaction.
func spoil(x api.Tx) {
	for i := range x.Ins {
		clear(x.Ins[i].Pre)
		x.Ins[i] = api.In{Way: 9}
	}
	for i := range x.Outs {
		for j := range x.Outs[i].Ways {
			clear(x.Outs[i].Ways[j].Keys)
			x.Outs[i].Ways[j] = api.Way{After: 9}
		}
		x.Outs[i] = api.Out{Amount: 99}
	}
	clear(x.Op.Data)
	clear(x.Signs)
}

// isAlike tells whether two transactions have the same of all, whereby nil and the empty list are the same.
func isAlike(a, b api.Tx) bool {
	return bytes.Equal(packed(a), packed(b))
}

// isNothing tells whether a transaction has nothing.
func isNothing(x api.Tx) bool {
	return len(x.Ins)+len(x.Outs)+len(x.Signs)+len(x.Op.Data) == 0 && reflect.DeepEqual(x.Op, api.Op{})
}
