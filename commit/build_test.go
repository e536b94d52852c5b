package commit_test

import (
	"crypto/sha256"
	"encoding/binary"
	"encoding/hex"
	"math"
	"reflect"
	"slices"
	"testing"

	"bartizan/api"
	"bartizan/commit"
	"bartizan/lock"
	"bartizan/tx"
)

// built is the commitment that must be, put together by hand.
func built(c api.Channel, s commit.State, owner int) api.Tx {
	key, other, own, rest := c.Client, c.Peer, s.Client, s.Peer
	if owner == 1 {
		key, other, own, rest = c.Peer, c.Client, s.Peer, s.Client
	}
	return api.Tx{
		Ins: []api.In{{Ref: c.Fund}},
		Outs: []api.Out{
			{Amount: own, Ways: []api.Way{{Keys: []int{key}, Wait: c.Wait}, {Keys: []int{other}, Hash: s.Hashes[owner]}}},
			{Amount: rest, Ways: []api.Way{{Keys: []int{other}}}},
		},
	}
}

// inPeace is what closes in peace, put together by hand.
func inPeace(c api.Channel, s commit.State) api.Tx {
	return api.Tx{
		Ins: []api.In{{Ref: c.Fund}},
		Outs: []api.Out{
			{Amount: s.Client, Ways: []api.Way{{Keys: []int{c.Client}}}},
			{Amount: s.Peer, Ways: []api.Way{{Keys: []int{c.Peer}}}},
		},
	}
}

// num is a number's bytes.
func num(n int) []byte {
	var b []byte
	for n >= 128 {
		b = append(b, byte(n%128+128))
		n /= 128
	}
	return append(b, byte(n))
}

// wayBytes are the bytes of a way of one key.
func wayBytes(key int, hash api.Sum, wait int) []byte {
	return slices.Concat(num(1), num(key), hash[:], num(0), num(wait))
}

// sumOf is a transaction's sum, of a channel's fund and outs' bytes, by the library's SHA-256.
func sumOf(c api.Channel, outs ...[]byte) api.Sum {
	front := slices.Concat(num(1), c.Fund.Tx[:], num(c.Fund.At), num(0), num(len(outs)), slices.Concat(outs...))
	front = append(front, make([]byte, 4+32+1)...)
	b := binary.BigEndian.AppendUint32([]byte{41}, uint32(len(front)))
	return sha256.Sum256(append(b, front...))
}

// builtSum is the sum of the commitment that must be.
func builtSum(c api.Channel, s commit.State, owner int) api.Sum {
	key, other, own, rest := c.Client, c.Peer, s.Client, s.Peer
	if owner == 1 {
		key, other, own, rest = c.Peer, c.Client, s.Peer, s.Client
	}
	part := slices.Concat(num(int(own)), num(2), wayBytes(key, api.Sum{}, c.Wait), wayBytes(other, s.Hashes[owner], 0))
	return sumOf(c, part, slices.Concat(num(int(rest)), num(1), wayBytes(other, api.Sum{}, 0)))
}

// isTx holds a transaction, and an error, against the one that must be.
func isTx(t *testing.T, got api.Tx, e api.Errno, want api.Tx) {
	t.Helper()
	if e != api.OK || !reflect.DeepEqual(got, want) {
		t.Errorf("%+v, %v, want %+v", got, e, want)
	}
}

// isNone holds a transaction, and an error, against ErrArg and nothing.
func isNone(t *testing.T, got api.Tx, e api.Errno) {
	t.Helper()
	if e != api.ErrArg || !reflect.DeepEqual(got, api.Tx{}) {
		t.Errorf("%+v, %v, want ErrArg, and nothing", got, e)
	}
}

// sumFrom is the sum whose bytes are written out.
func sumFrom(text string) api.Sum {
	b, _ := hex.DecodeString(text)
	return api.Sum(b)
}

// repeated is a sum of one byte, 32 times.
func repeated(b byte) api.Sum {
	var s api.Sum
	for i := range s {
		s[i] = b
	}
	return s
}

func Test14_1Fund(t *testing.T) {
	for _, c := range []struct {
		client, peer int
		keys         []int
	}{
		{1, 2, []int{1, 2}}, {2, 1, []int{1, 2}}, {0, topKey, []int{0, topKey}}, {topKey, 0, []int{0, topKey}}, {128, 127, []int{127, 128}},
		{-1, 5, []int{-1, 5}}, {5, -1, []int{-1, 5}}, {3, 3, []int{3, 3}}, {math.MaxInt, math.MinInt, []int{math.MinInt, math.MaxInt}},
	} {
		for _, n := range []int64{1, 100, topAmount, 0, -1, topAmount + 1, math.MinInt64, math.MaxInt64} {
			ch := with(plain(), func(ch *api.Channel) { ch.Client, ch.Peer, ch.Cap = c.client, c.peer, n })
			want := api.Out{Amount: n, Ways: []api.Way{{Keys: c.keys}}}
			if got := commit.Fund(ch); !reflect.DeepEqual(got, want) {
				t.Errorf("%+v, want %+v", got, want)
			}
		}
	}
}

func Test14_1AFundMayBe(t *testing.T) {
	for _, c := range rightChannels() {
		o := commit.Fund(c)
		if !lock.RightOut(o) {
			t.Errorf("%+v may not be", o)
		}
		for _, try := range []struct {
			keys []int
			open bool
		}{{[]int{c.Client, c.Peer}, true}, {[]int{c.Peer, c.Client}, true}, {[]int{c.Client}, false}, {[]int{c.Peer}, false}, {nil, false}} {
			if lock.Opens(o.Ways[0], lock.Try{Keys: try.keys}) != try.open {
				t.Errorf("%v: %v", try.keys, !try.open)
			}
		}
	}
}

func Test14_1KnownSums(t *testing.T) {
	hashes := [2]api.Sum{repeated(11), risingSum()}
	for _, k := range []struct {
		c                api.Channel
		client, peer     int64
		ofClient, ofPeer string
		peaceful         string
	}{
		{api.Channel{Client: 1, Peer: 2, Fund: api.Ref{Tx: api.Sum{7}, At: 3}, Wait: 6}, 60, 40,
			"eefa5cdc290b7bbd25df26ec267890d2978d0ceea0829168ba5660006318b70b",
			"8a2f4ed829d43120f8dfd411f48618268674bf2d8041d72f2871356520395598",
			"0873f92a26ac849882bbad61d4b206bb298b1025509cb93cab2126bc3da7ce0d"},
		{api.Channel{Client: 255, Peer: 0, Fund: api.Ref{Tx: full(), At: 15}, Wait: 65536}, 0, topAmount,
			"f0ff61adb5421f479f123b4f086dba8e381e6d3d5877a8b0c8c12f087b547698",
			"354f3e6f7ad5878a43480b3f481f2617d582072eb149c0c68bfe347e5c6a329e",
			"bcc7a71c96b3039ee83e9997e0e98f546a79c6a36300e0859fde375c6a72468d"},
		{api.Channel{Client: 128, Peer: 200, Wait: 2}, 300, 0,
			"71779a5d9c3681512d4ba0a01d5800363e5444f2b9f0f79be156dbcd167144a6",
			"f42555b12c483dcf110a8e947eac72ea56da278db767eb0bac4e15840a931292",
			"360c5fbdd9cdff86c28f69b266be2edcefb0620a7d8e51cd8ad795f5fa850d00"},
	} {
		k.c.Cap, k.c.Window = k.client+k.peer, 1
		s := commit.State{Client: k.client, Peer: k.peer, Hashes: hashes}
		ofClient, first := commit.Build(k.c, s, 0)
		ofPeer, second := commit.Build(k.c, s, 1)
		peaceful, third := commit.Close(k.c, s)
		if first != api.OK || second != api.OK || third != api.OK {
			t.Errorf("%v, %v, %v", first, second, third)
		}
		if tx.Sum(ofClient) != sumFrom(k.ofClient) || tx.Sum(ofPeer) != sumFrom(k.ofPeer) || tx.Sum(peaceful) != sumFrom(k.peaceful) {
			t.Errorf("of %+v the sums are %x, %x, %x", k.c, tx.Sum(ofClient), tx.Sum(ofPeer), tx.Sum(peaceful))
		}
	}
}

func Test14_1BuildIsTheCommitment(t *testing.T) {
	for _, c := range rightChannels() {
		for _, s := range rightStates(c) {
			for owner := range 2 {
				got, e := commit.Build(c, s, owner)
				isTx(t, got, e, built(c, s, owner))
				if !tx.Right(got) || tx.Sum(got) != builtSum(c, s, owner) {
					t.Errorf("%+v has the sum %x, and may be: %v", got, tx.Sum(got), tx.Right(got))
				}
			}
		}
	}
}

func Test14_1CloseIsInPeace(t *testing.T) {
	for _, c := range rightChannels() {
		for _, s := range rightStates(c) {
			got, e := commit.Close(c, s)
			isTx(t, got, e, inPeace(c, s))
			if !tx.Right(got) || !lock.Sole(got.Outs[0], c.Client) || !lock.Sole(got.Outs[1], c.Peer) {
				t.Errorf("%+v is not to both, and may be: %v", got, tx.Right(got))
			}
		}
	}
}

func Test14_1BuildAndCloseOfWrongStates(t *testing.T) {
	for _, s := range wrongStates() {
		for owner := -1; owner <= 2; owner++ {
			got, e := commit.Build(plain(), s, owner)
			isNone(t, got, e)
		}
		got, e := commit.Close(plain(), s)
		isNone(t, got, e)
	}
}

func Test14_1BuildAndCloseOfWrongChannels(t *testing.T) {
	for _, c := range wrongChannels() {
		for _, s := range append(rightStates(c), plainState()) {
			for owner := range 2 {
				got, e := commit.Build(c, s, owner)
				isNone(t, got, e)
			}
			got, e := commit.Close(c, s)
			isNone(t, got, e)
		}
	}
}

func Test14_1BuildOfNoOwner(t *testing.T) {
	for _, owner := range append([]int{2, 3, 255, 256, 257, 1 << 32, 1<<32 + 1}, far...) {
		got, e := commit.Build(plain(), plainState(), owner)
		isNone(t, got, e)
	}
}

func Test14_1AnOwnerWaitsAndTheOtherOneTakesByTheSecret(t *testing.T) {
	c, pre := plain(), []byte("what takes it back")
	s := withState(plainState(), func(s *commit.State) { s.Hashes = [2]api.Sum{lock.Hash(pre), lock.Hash([]byte("another"))} })
	got, e := commit.Build(c, s, 0)
	if e != api.OK {
		t.Fatal(e)
	}
	own, rest := got.Outs[0].Ways, got.Outs[1]
	for _, k := range []struct {
		way  int
		try  lock.Try
		open bool
	}{
		{0, lock.Try{Keys: []int{c.Client}, Age: c.Wait}, true},
		{0, lock.Try{Keys: []int{c.Client}, Age: c.Wait - 1}, false},
		{0, lock.Try{Keys: []int{c.Peer}, Age: c.Wait, Pre: pre}, false},
		{1, lock.Try{Keys: []int{c.Peer}, Pre: pre}, true},
		{1, lock.Try{Keys: []int{c.Peer}, Pre: []byte("another")}, false},
		{1, lock.Try{Keys: []int{c.Client}, Pre: pre, Age: c.Wait}, false},
	} {
		if lock.Opens(own[k.way], k.try) != k.open {
			t.Errorf("the way %d by %+v: %v", k.way, k.try, !k.open)
		}
	}
	if !lock.Sole(rest, c.Peer) || rest.Amount != s.Peer {
		t.Errorf("%+v is not to the peer alone", rest)
	}
}

func Test14_1Ref(t *testing.T) {
	c, s := plain(), plainState()
	for owner := range 2 {
		x := built(c, s, owner)
		if got := commit.Ref(x); got != (api.Ref{Tx: builtSum(c, s, owner), At: 0}) {
			t.Errorf("%x at %d", got.Tx, got.At)
		}
		if commit.Ref(tx.Signed(x, c.Client, c.Peer)) != commit.Ref(x) {
			t.Error("signs change where the part is")
		}
	}
	wrong := api.Tx{Ins: make([]api.In, 20), Outs: []api.Out{{Amount: -5}}, Op: api.Op{Kind: -1, Amount: math.MinInt64}}
	for _, x := range []api.Tx{{}, inPeace(c, s), {Op: api.Op{Kind: api.OpAsk}}, wrong} {
		if got := commit.Ref(x); got != (api.Ref{Tx: tx.Sum(x)}) {
			t.Errorf("%x at %d", got.Tx, got.At)
		}
	}
}

// spoil writes over all the lists of a transaction.
func spoil(x api.Tx) {
	for i := range x.Ins {
		x.Ins[i] = api.In{Way: 9}
	}
	for i, o := range x.Outs {
		spoilOut(o)
		x.Outs[i] = api.Out{Amount: 99}
	}
}

// spoilOut writes over all the lists of an out.
func spoilOut(o api.Out) {
	for i, w := range o.Ways {
		for j := range w.Keys {
			w.Keys[j] = 77
		}
		_ = append(w.Keys, 78, 79)
		o.Ways[i] = api.Way{After: 9}
	}
	_ = append(o.Ways, api.Way{After: 10})
}

func Test14_1AnswersAreNewMemory(t *testing.T) {
	c, s := plain(), plainState()
	for range 2 {
		for owner := range 2 {
			got, e := commit.Build(c, s, owner)
			isTx(t, got, e, built(c, s, owner))
			spoil(got)
		}
		got, e := commit.Close(c, s)
		isTx(t, got, e, inPeace(c, s))
		spoil(got)
		o := commit.Fund(c)
		if !reflect.DeepEqual(o, api.Out{Amount: 100, Ways: []api.Way{{Keys: []int{1, 2}}}}) {
			t.Errorf("%+v", o)
		}
		spoilOut(o)
	}
}

func Test14_1ListsOfAnAnswerShareNothing(t *testing.T) {
	got, _ := commit.Build(plain(), plainState(), 0)
	want := built(plain(), plainState(), 0)
	want.Outs[0].Ways[1].Keys[0] = 50
	got.Outs[0].Ways[1].Keys[0] = 50
	if !reflect.DeepEqual(got, want) {
		t.Errorf("%+v, want %+v", got, want)
	}
}
