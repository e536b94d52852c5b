package justice_test

import (
	"fmt"
	"math"
	"reflect"
	"testing"

	"bartizan/api"
	"bartizan/justice"
	"bartizan/tx"
)

// isTold holds what Check tells against what it must tell.
func isTold(t *testing.T, what string, c api.Channel, of, j api.Tx, want api.Errno) {
	t.Helper()
	handedOf, handed := copied(of), copied(j)
	if got := justice.Check(c, of, j); got != want {
		t.Errorf("%s: %v, want %v, of %+v", what, got, want, j)
	}
	if !reflect.DeepEqual(of, handedOf) || !reflect.DeepEqual(j, handed) {
		t.Errorf("%s: what was handed in has changed", what)
	}
}

// takes is what takes the plain part, to outs.
func takes(outs ...api.Out) api.Tx {
	return taken(cheat(), 1, risingSum(), outs...)
}

// signedAgain is takes of the whole part, of which something is changed, signed by keys.
func signedAgain(change func(x *api.Tx), keys ...int) api.Tx {
	return signedBy(changed(takes(paid(1, 100)), change), keys...)
}

func Test15_3CheckOfWhatTakesThePart(t *testing.T) {
	for i, outs := range [][]api.Out{
		nil, {paid(1, 0)}, {paid(1, 1)}, {paid(1, 99)}, {paid(1, 100)}, {paid(2, 100)}, {paid(9, 50), paid(9, 50)},
		{paid(1, 100), paid(1, 0)}, {paid(1, 0), paid(103, 100)},
		{{Amount: 100, Ways: []api.Way{{}, {Hash: full(), After: 9, Wait: 9, Keys: []int{1, 2, 255}}}}},
	} {
		isTold(t, fmt.Sprint("outs ", i), plain(), cheat(), takes(outs...), api.OK)
	}
	var many []api.Out
	for range 16 {
		many = append(many, paid(7, 6))
	}
	isTold(t, "sixteen outs", plain(), cheat(), takes(many...), api.OK)
	many[5].Amount = 11
	isTold(t, "sixteen outs of 101", plain(), cheat(), takes(many...), api.ErrAmount)
}

func Test15_3CheckOfEachOwner(t *testing.T) {
	for _, c := range channels() {
		for owner := range 2 {
			key, other := keysOf(c, owner)
			of := commitment(c, owner, 60, 40, full())
			isTold(t, "the other one's", c, of, taken(of, other, full(), paid(key, 60)), api.OK)
			isTold(t, "the owner's", c, of, taken(of, key, full(), paid(key, 60)), api.ErrLock)
			isTold(t, "too much", c, of, taken(of, other, full(), paid(key, 61)), api.ErrAmount)
			isTold(t, "another secret", c, of, taken(of, other, api.Sum{}, paid(key, 60)), api.ErrLock)
		}
	}
}

func Test15_3OfWhatMayBeAny(t *testing.T) {
	for i, change := range oddChanges() {
		of := changed(cheat(), change)
		isTold(t, fmt.Sprint("change ", i), plain(), of, taken(of, 1, risingSum(), paid(1, 100)), api.OK)
		isTold(t, fmt.Sprint("change ", i), plain(), of, taken(of, 1, risingSum(), paid(1, 101)), api.ErrAmount)
	}
}

func Test15_3OfLikeKeys(t *testing.T) {
	c := plain()
	c.Client, c.Peer = 5, 5
	of := commitment(c, 1, 60, 40, full())
	isTold(t, "like keys", c, of, taken(of, 5, full(), paid(5, 60)), api.OK)
	isTold(t, "another key", c, of, taken(of, 6, full(), paid(5, 60)), api.ErrLock)
}

func Test15_3NoCommitment(t *testing.T) {
	for i, change := range noCommitments() {
		of := changed(cheat(), change)
		what := fmt.Sprint("change ", i)
		isTold(t, what, plain(), of, taken(of, 1, risingSum(), paid(1, 100)), api.ErrArg)
		isTold(t, what+", another place", plain(), of, takes(paid(1, 200)), api.ErrArg)
		isTold(t, what+", nothing", plain(), of, api.Tx{}, api.ErrArg)
	}
	isTold(t, "nothing of nothing", api.Channel{}, api.Tx{}, api.Tx{}, api.ErrArg)
	other := plain()
	other.Peer = 3
	isTold(t, "of another channel", other, cheat(), takes(paid(1, 100)), api.ErrArg)
	isTold(t, "the commitment itself", plain(), cheat(), cheat(), api.ErrCoin)
}

func Test15_3WhatMayNotBe(t *testing.T) {
	for i, change := range []func(x *api.Tx){
		func(x *api.Tx) { *x = api.Tx{} },
		func(x *api.Tx) { x.Ins = nil },
		func(x *api.Tx) { x.Ins[0].Way = -1 },
		func(x *api.Tx) { x.Ins[0].Way = 16 },
		func(x *api.Tx) { x.Ins[0].Ref.At = -1 },
		func(x *api.Tx) { x.Ins[0].Ref.At = 16 },
		func(x *api.Tx) { x.Ins[0].Pre = make([]byte, 65) },
		func(x *api.Tx) { x.Outs = make([]api.Out, 17) },
		func(x *api.Tx) { x.Outs[0].Ways = nil },
		func(x *api.Tx) { x.Outs[0].Amount = -1 },
		func(x *api.Tx) { x.Outs[0].Amount = topAmount + 1 },
		func(x *api.Tx) { x.Outs[0].Ways[0].Keys = []int{256} },
		func(x *api.Tx) { x.Outs[0].Ways[0].Keys = []int{2, 1} },
		func(x *api.Tx) { x.Outs = append(x.Outs, api.Out{}) },
		func(x *api.Tx) { x.Op.Tower = 1 },
		func(x *api.Tx) { x.Op.Data = []byte{1} },
		func(x *api.Tx) { x.Op.Kind = 8 },
		func(x *api.Tx) { x.Op.Kind = -1 },
	} {
		isTold(t, fmt.Sprint("change ", i), plain(), cheat(), signedAgain(change, 1), api.ErrArg)
		isTold(t, fmt.Sprint("change ", i, " without a sign"), plain(), cheat(), signedAgain(change), api.ErrArg)
	}
	twice := func(x *api.Tx) {}
	for _, keys := range [][]int{{1, 1}, {2, 1}, {-1, 1}, {1, 256}} {
		isTold(t, fmt.Sprint("signed by ", keys), plain(), cheat(), signedAgain(twice, keys...), api.ErrArg)
	}
}

func Test15_3JustOneIn(t *testing.T) {
	for _, in := range []api.In{{}, {Ref: api.Ref{Tx: tx.Sum(cheat()), At: 1}}, {Ref: plain().Fund, Way: 1}} {
		behind := signedAgain(func(x *api.Tx) { x.Ins = append(x.Ins, in) }, 1)
		isTold(t, "one more behind", plain(), cheat(), behind, api.ErrArg)
		ahead := signedAgain(func(x *api.Tx) { x.Ins = append([]api.In{in}, x.Ins...) }, 1)
		isTold(t, "one more ahead", plain(), cheat(), ahead, api.ErrArg)
	}
	for kind := 1; kind <= 7; kind++ {
		none := signedAgain(func(x *api.Tx) { x.Ins, x.Op.Kind = nil, kind }, 1)
		isTold(t, "none", plain(), cheat(), none, api.ErrArg)
	}
}

func Test15_3NoOp(t *testing.T) {
	for kind := 1; kind <= 7; kind++ {
		for _, op := range []api.Op{{Kind: kind}, {Kind: kind, Tower: 15, Channel: 1, Amount: 5, Root: full(), Data: []byte("data")}} {
			j := signedAgain(func(x *api.Tx) { x.Op = op }, 1)
			if !tx.Right(j) {
				t.Fatalf("%+v may not be", j)
			}
			isTold(t, fmt.Sprint("the kind ", kind), plain(), cheat(), j, api.ErrArg)
		}
	}
}

func Test15_3AnotherPlaceOrWay(t *testing.T) {
	for at := range 16 {
		for way := range 16 {
			want := api.ErrCoin
			if at == 0 && way == 1 {
				want = api.OK
			}
			j := signedAgain(func(x *api.Tx) { x.Ins[0].Ref.At, x.Ins[0].Way = at, way }, 1)
			isTold(t, fmt.Sprint("the place ", at, " by ", way), plain(), cheat(), j, want)
		}
	}
	for i := range 256 {
		j := signedAgain(func(x *api.Tx) { x.Ins[0].Ref.Tx[i/8] ^= 1 << (i % 8) }, 1)
		isTold(t, fmt.Sprint("bit ", i), plain(), cheat(), j, api.ErrCoin)
	}
	other := commitment(plain(), 1, 100, 0, full())
	isTold(t, "of another state", plain(), other, takes(paid(1, 100)), api.ErrCoin)
	j := signedAgain(func(x *api.Tx) { x.Ins[0].Ref = plain().Fund }, 1)
	isTold(t, "the fund", plain(), cheat(), j, api.ErrCoin)
}

func Test15_3WhoSigned(t *testing.T) {
	same := func(x *api.Tx) {}
	for _, keys := range [][]int{{1}, {1, 2}, {0, 1}, {0, 1, 2, 255}, {1, 103}} {
		isTold(t, fmt.Sprint("signed by ", keys), plain(), cheat(), signedAgain(same, keys...), api.OK)
	}
	for _, keys := range [][]int{nil, {0}, {2}, {101}, {103}, {0, 2, 255}} {
		isTold(t, fmt.Sprint("signed by ", keys), plain(), cheat(), signedAgain(same, keys...), api.ErrLock)
	}
	j := takes(paid(1, 100))
	for i := range 256 {
		other := changed(j, func(x *api.Tx) { x.Signs[0].Of[i/8] ^= 1 << (i % 8) })
		isTold(t, fmt.Sprint("bit of the sign ", i), plain(), cheat(), other, api.ErrLock)
	}
	stale := changed(j, func(x *api.Tx) { x.Outs[0].Amount = 99 })
	isTold(t, "changed behind its sign", plain(), cheat(), stale, api.ErrLock)
}

func Test15_3WhatIsShown(t *testing.T) {
	pre := risingSum()
	for _, shown := range [][]byte{nil, {}, pre[:31], append(pre[:], 0), make([]byte, 32), make([]byte, 64)} {
		j := signedAgain(func(x *api.Tx) { x.Ins[0].Pre = shown }, 1)
		isTold(t, fmt.Sprintf("shown is %x", shown), plain(), cheat(), j, api.ErrLock)
	}
	for i := range 256 {
		j := signedAgain(func(x *api.Tx) { x.Ins[0].Pre[i/8] ^= 1 << (i % 8) }, 1)
		isTold(t, fmt.Sprint("bit ", i), plain(), cheat(), j, api.ErrLock)
	}
}

func Test15_3AmountsTogether(t *testing.T) {
	top := commitment(plain(), 1, topAmount, 0, risingSum())
	for _, k := range []struct {
		amounts []int64
		want    api.Errno
	}{
		{[]int64{topAmount}, api.OK}, {[]int64{topAmount, 0}, api.OK}, {[]int64{topAmount - 1, 1}, api.OK}, {[]int64{1, topAmount - 2, 1}, api.OK},
		{[]int64{topAmount, 1}, api.ErrOver}, {[]int64{1, topAmount}, api.ErrOver}, {[]int64{topAmount, topAmount}, api.ErrOver},
		{[]int64{topAmount / 2, topAmount / 2, 1}, api.ErrOver},
	} {
		var outs []api.Out
		for _, n := range k.amounts {
			outs = append(outs, paid(1, n))
		}
		isTold(t, fmt.Sprint(k.amounts), plain(), top, taken(top, 1, risingSum(), outs...), k.want)
		want := api.ErrAmount
		if k.want != api.OK {
			want = k.want
		}
		isTold(t, fmt.Sprint(k.amounts, " of 100"), plain(), cheat(), takes(outs...), want)
	}
}

func Test15_3MoreThanThePart(t *testing.T) {
	for _, n := range rightAmounts {
		of := commitment(plain(), 1, n, 0, risingSum())
		isTold(t, "all", plain(), of, taken(of, 1, risingSum(), paid(1, n)), api.OK)
		isTold(t, "nothing", plain(), of, taken(of, 1, risingSum()), api.OK)
		if n > 0 {
			isTold(t, "less", plain(), of, taken(of, 1, risingSum(), paid(1, n-1)), api.OK)
			isTold(t, "one more by an out", plain(), of, taken(of, 1, risingSum(), paid(1, n-1), paid(2, min(2, topAmount-n+1))), moreThan(n))
		}
		if n < topAmount {
			isTold(t, "one more", plain(), of, taken(of, 1, risingSum(), paid(1, n+1)), api.ErrAmount)
			isTold(t, "the most", plain(), of, taken(of, 1, risingSum(), paid(1, topAmount)), api.ErrAmount)
		}
	}
}

// moreThan is what is told of one more than a part: nothing, if there is no room for one more.
func moreThan(n int64) api.Errno {
	if n == topAmount {
		return api.OK
	}
	return api.ErrAmount
}

// What the part of a commitment has is compared as it is, though it may not be.
func Test15_3OfPartsThatMayNotBe(t *testing.T) {
	for _, n := range wrongAmounts {
		of := commitment(plain(), 1, n, 0, risingSum())
		want := api.OK
		if n < 0 {
			want = api.ErrAmount
		}
		isTold(t, fmt.Sprint("nothing of ", n), plain(), of, taken(of, 1, risingSum()), want)
		isTold(t, fmt.Sprint("the most of ", n), plain(), of, taken(of, 1, risingSum(), paid(1, topAmount)), want)
	}
	of := commitment(plain(), 1, math.MinInt64, 0, risingSum())
	isTold(t, "another secret", plain(), of, taken(of, 1, full()), api.ErrLock)
}

// Where several errors apply, the first one is told.
func Test15_3ErrorsInOrder(t *testing.T) {
	over := []api.Out{paid(1, topAmount), paid(1, 1)}
	const (
		wrongOp = 1 << iota
		wrongWay
		wrongSign
		tooMany
		tooMuch
	)
	for bits := range 32 {
		want := api.OK
		j := takes(paid(1, 100))
		if bits&tooMuch != 0 {
			j.Outs, want = []api.Out{paid(1, 101)}, api.ErrAmount
		}
		if bits&tooMany != 0 {
			j.Outs, want = over, api.ErrOver
		}
		key := 1
		if bits&wrongSign != 0 {
			key, want = 2, api.ErrLock
		}
		if bits&wrongWay != 0 {
			j.Ins[0].Way, want = 0, api.ErrCoin
		}
		if bits&wrongOp != 0 {
			j.Op, want = api.Op{Kind: api.OpAsk}, api.ErrArg
		}
		isTold(t, fmt.Sprintf("errors %05b", bits), plain(), cheat(), signedBy(j, key), want)
	}
}
