package justice_test

import (
	"encoding/hex"
	"fmt"
	"math"
	"reflect"
	"testing"

	"bartizan/api"
	"bartizan/commit"
	"bartizan/justice"
	"bartizan/lock"
	"bartizan/secret"
	"bartizan/tx"
)

// isBuilt holds what is built against the transaction that must be, of which each part counts.
func isBuilt(t *testing.T, c api.Channel, of api.Tx, pre api.Sum, tower int, d justice.Deal, want api.Tx) {
	t.Helper()
	handed := copied(of)
	got, e := justice.Build(c, of, pre, tower, d)
	if e != api.OK || !tx.Same(got, want) {
		t.Errorf("of %+v for %d by %+v: %+v, %v, want %+v", of, tower, d, got, e, want)
	}
	if !reflect.DeepEqual(of, handed) {
		t.Errorf("what was handed in has changed: %+v", of)
	}
}

// isRefused holds what is built against an error, and nothing.
func isRefused(t *testing.T, what string, c api.Channel, of api.Tx, pre api.Sum, tower int, d justice.Deal, want api.Errno) {
	t.Helper()
	got, e := justice.Build(c, of, pre, tower, d)
	if e != want || !isNothing(got) {
		t.Errorf("%s, for %d by %+v: %+v, %v, want %v, and nothing", what, tower, d, got, e, want)
	}
}

func Test15_2BuildOfAHundred(t *testing.T) {
	pre := risingSum()
	want := api.Tx{
		Ins:  []api.In{{Ref: api.Ref{Tx: tx.Sum(cheat()), At: 0}, Way: 1, Pre: pre[:]}},
		Outs: []api.Out{{Amount: 81, Ways: []api.Way{{Keys: []int{1}}}}, {Amount: 9, Ways: []api.Way{{Keys: []int{103}}}}},
	}
	want.Signs = []api.Sign{{Key: 1, Of: tx.Sum(want)}}
	isBuilt(t, plain(), cheat(), pre, 3, plainDeal(), want)
	want.Outs = []api.Out{{Amount: 90, Ways: []api.Way{{Keys: []int{1}}}}}
	want.Signs = []api.Sign{{Key: 1, Of: tx.Sum(want)}}
	isBuilt(t, plain(), cheat(), pre, -1, plainDeal(), want)
}

// These sums come of the document's words in another language.
func Test15_2KnownSums(t *testing.T) {
	eleven := api.Sum{}
	for i := range eleven {
		eleven[i] = 11
	}
	for _, k := range []struct {
		c           api.Channel
		owner       int
		own, rest   int64
		pre         api.Sum
		tower       int
		d           justice.Deal
		commit, sum string
	}{
		{plain(), 1, 100, 0, risingSum(), 3, plainDeal(),
			"a81ba555242bca06397397ea6d9d36b19de2f2f6fd0522013af61eb4fde723c5", "b4d6c4b1aa90ecb1be454a10ef91d36d54135ae51f2c20fd9c52411ae6f4bd59"},
		{plain(), 0, 60, 40, eleven, -1, plainDeal(),
			"0a15b4bb7538c76bc071580900a8839e64706542043d8885b258e5b6c19cb976", "a9e82570468fc8ed1b7122861f7c9139c65cc881c5c7782fa531db8724faea07"},
		{api.Channel{Client: 255, Fund: api.Ref{Tx: full(), At: 15}, Wait: 65536}, 1, topAmount, 0, full(), 15, justice.Deal{Reward: 1000, Fee: topAmount - 300},
			"56d5fd306a78cf55866af305b49a9abf2e0dbe3cb7958bfeb8e4360243927341", "a133a16159e03c19f10aa8f7bfe63b3d1c46f407bad59386630ff636961a52ea"},
		{api.Channel{Client: 255, Fund: api.Ref{Tx: full(), At: 15}, Wait: 65536}, 0, topAmount, 0, api.Sum{}, 0, justice.Deal{Reward: 333, Fee: 1},
			"a0b7427593f481cbff4f476620805e6d677fc5b3ec49c4937a9da16dac2c2e59", "1aef997b948780ea07f13bb79ab36956623e106f3706b19c3cc75622e3b79373"},
		{api.Channel{Client: 128, Peer: 200, Wait: 2}, 1, 300, 7, risingSum(), 9, justice.Deal{},
			"0bdcf4913f418c3fd1ee241df35c1bd6a2fe16d6d9b36550a27f602ee8f7320c", "07d5700a8b26e69141632e939da29f0903d4a8abd4c4db45a668b7aa85ab5e7e"},
		{api.Channel{Client: 128, Peer: 200, Wait: 2}, 1, 5, 7, risingSum(), 9, justice.Deal{Reward: 500, Fee: 6},
			"5fce4c795179326854bb80f713f264088ed7ad8525c5020117b796b45fd37cfb", "634760addf13217648ce3885f7fcd4c645fa586c97e86339448e329ebd6e4a5a"},
	} {
		of := commitment(k.c, k.owner, k.own, k.rest, k.pre)
		got, e := justice.Build(k.c, of, k.pre, k.tower, k.d)
		sum := tx.Sum(got)
		if e != api.OK || hex.EncodeToString(sum[:]) != k.sum || len(got.Ins) != 1 {
			t.Errorf("of %+v: %x, %v, want %s", k, sum, e, k.sum)
			continue
		}
		if hex.EncodeToString(got.Ins[0].Ref.Tx[:]) != k.commit {
			t.Errorf("of %+v: it spends %x, want %s", k, got.Ins[0].Ref.Tx, k.commit)
		}
	}
}

func Test15_2BuildOfEachCommitment(t *testing.T) {
	for _, c := range channels() {
		for owner := range 2 {
			for _, pre := range []api.Sum{{}, full(), risingSum(), {31: 1}} {
				of := commitment(c, owner, 60, 40, pre)
				for tower := -1; tower <= topTower; tower++ {
					isBuilt(t, c, of, pre, tower, plainDeal(), takenOf(c, owner, of, pre, tower, plainDeal()))
				}
			}
		}
	}
}

// Each of both has an out, though it gets nothing of the part.
func Test15_2BuildByEachDeal(t *testing.T) {
	for _, n := range rightAmounts {
		of := commitment(plain(), 1, n, 40, risingSum())
		for _, fee := range rightAmounts {
			for _, reward := range rightRewards {
				d := justice.Deal{Reward: reward, Fee: fee}
				for _, tower := range []int{-1, 0, topTower} {
					isBuilt(t, plain(), of, risingSum(), tower, d, takenOf(plain(), 1, of, risingSum(), tower, d))
				}
			}
		}
	}
}

func Test15_2BuildOfWhatMayBeAny(t *testing.T) {
	for i, change := range oddChanges() {
		of := changed(cheat(), change)
		if !isCommitment(plain(), of) {
			t.Fatalf("change %d makes it none", i)
		}
		isBuilt(t, plain(), of, risingSum(), 3, plainDeal(), takenOf(plain(), 1, of, risingSum(), 3, plainDeal()))
	}
}

func Test15_2BuildOfLikeKeys(t *testing.T) {
	for _, key := range []int{0, 1, 103, topKey} {
		c := plain()
		c.Client, c.Peer = key, key
		of := commitment(c, 1, 50, 50, full())
		isBuilt(t, c, of, full(), 3, plainDeal(), takenOf(c, 1, of, full(), 3, plainDeal()))
	}
}

// Without a tower the deal's thousandths are not asked for.
func Test15_2NoTowerAsksForNoReward(t *testing.T) {
	for _, reward := range append(wrongRewards, rightRewards...) {
		d := justice.Deal{Reward: reward, Fee: 10}
		isBuilt(t, plain(), cheat(), risingSum(), -1, d, taken(cheat(), 1, risingSum(), paid(1, 90)))
	}
	for _, fee := range wrongAmounts {
		isRefused(t, "a wrong fee", plain(), cheat(), risingSum(), -1, justice.Deal{Fee: fee}, api.ErrArg)
	}
}

func Test15_2NoCommitment(t *testing.T) {
	peaceful, e := commit.Close(plain(), commit.State{N: 1, Client: 60, Peer: 40, Hashes: [2]api.Sum{{1}, {2}}})
	if e != api.OK {
		t.Fatal(e)
	}
	isRefused(t, "in peace", plain(), peaceful, risingSum(), 3, plainDeal(), api.ErrArg)
	for i, change := range noCommitments() {
		of := changed(cheat(), change)
		isRefused(t, fmt.Sprint("change ", i), plain(), of, risingSum(), 3, plainDeal(), api.ErrArg)
		isRefused(t, fmt.Sprint("change ", i), plain(), of, full(), -1, plainDeal(), api.ErrArg)
	}
	for i, c := range channels()[1:] {
		isRefused(t, fmt.Sprint("channel ", i), c, commitment(api.Channel{Client: 70, Peer: 80}, 1, 100, 0, full()), full(), 3, plainDeal(), api.ErrArg)
	}
	wrong := plain()
	wrong.Client = topKey + 1
	isRefused(t, "a wrong key", wrong, commitment(wrong, 1, 100, 0, full()), full(), 3, plainDeal(), api.ErrArg)
}

func Test15_2NoTower(t *testing.T) {
	for _, tower := range append([]int{topTower + 1, 17, 100, 115, 256, 1 << 32, 1<<32 + 3}, farNumbers...) {
		isRefused(t, "no tower", plain(), cheat(), risingSum(), tower, plainDeal(), api.ErrArg)
		isRefused(t, "no tower, no secret", plain(), cheat(), full(), tower, plainDeal(), api.ErrArg)
	}
}

func Test15_2AnotherSecret(t *testing.T) {
	for i := range 256 {
		pre := risingSum()
		pre[i/8] ^= 1 << (i % 8)
		isRefused(t, fmt.Sprint("bit ", i), plain(), cheat(), pre, 3, plainDeal(), api.ErrProof)
		of := changed(cheat(), func(x *api.Tx) { x.Outs[0].Ways[1].Hash[i/8] ^= 1 << (i % 8) })
		isRefused(t, fmt.Sprint("bit of the hash ", i), plain(), of, risingSum(), 3, plainDeal(), api.ErrProof)
	}
	of := changed(cheat(), func(x *api.Tx) { x.Outs[0].Ways[1].Hash = risingSum() })
	isRefused(t, "the secret itself", plain(), of, risingSum(), 3, plainDeal(), api.ErrProof)
	isRefused(t, "its hash", plain(), cheat(), cheat().Outs[0].Ways[1].Hash, 3, plainDeal(), api.ErrProof)
}

// The secret is asked for ahead of the shares.
func Test15_2WrongShares(t *testing.T) {
	for _, tower := range []int{-1, 0, 3, topTower} {
		for _, n := range wrongAmounts {
			of := commitment(plain(), 1, n, 0, risingSum())
			isRefused(t, "a wrong part", plain(), of, risingSum(), tower, plainDeal(), api.ErrArg)
			isRefused(t, "a wrong part, another secret", plain(), of, full(), tower, plainDeal(), api.ErrProof)
			d := justice.Deal{Reward: 100, Fee: n}
			isRefused(t, "a wrong fee", plain(), cheat(), risingSum(), tower, d, api.ErrArg)
			isRefused(t, "a wrong fee, another secret", plain(), cheat(), full(), tower, d, api.ErrProof)
		}
		for _, reward := range wrongRewards {
			d := justice.Deal{Reward: reward, Fee: 10}
			isRefused(t, "a wrong reward, another secret", plain(), cheat(), full(), tower, d, api.ErrProof)
			if tower >= 0 {
				isRefused(t, "a wrong reward", plain(), cheat(), risingSum(), tower, d, api.ErrArg)
			}
		}
	}
}

// The other one has what it takes by at once; the owner has not.
func Test15_2TheOtherOneTakesThePart(t *testing.T) {
	seed := api.Sum{5}
	s := commit.State{N: 7, Client: 60, Peer: 40, Hashes: [2]api.Sum{secret.Point(seed, 7), secret.Point(api.Sum{6}, 7)}}
	of, e := commit.Build(plain(), s, 0)
	if e != api.OK {
		t.Fatal(e)
	}
	j, e := justice.Build(plain(), of, secret.Of(seed, 7), 3, plainDeal())
	if e != api.OK || justice.Check(plain(), of, j) != api.OK {
		t.Fatal(j, e)
	}
	way := of.Outs[0].Ways[j.Ins[0].Way]
	if !lock.Opens(way, lock.Try{Keys: tx.Keys(j), Pre: j.Ins[0].Pre}) {
		t.Error("the other one can't take it")
	}
	if lock.Opens(way, lock.Try{Keys: []int{plain().Client}, Pre: j.Ins[0].Pre, Age: math.MaxInt}) {
		t.Error("the owner can take it")
	}
	if !lock.Sole(j.Outs[0], plain().Peer) || j.Outs[0].Amount != 45 || !lock.Sole(j.Outs[1], 103) || j.Outs[1].Amount != 5 {
		t.Errorf("it goes to %+v", j.Outs)
	}
	isRefused(t, "of the next state", plain(), of, secret.Of(seed, 8), 3, plainDeal(), api.ErrProof)
	isRefused(t, "of the other one", plain(), of, secret.Of(api.Sum{6}, 7), 3, plainDeal(), api.ErrProof)
}

// spoil writes over all the lists of a transaction.
func spoil(x api.Tx) {
	for i, in := range x.Ins {
		for j := range in.Pre {
			in.Pre[j] = 0xee
		}
		_ = append(in.Pre, 0xee)
		x.Ins[i] = api.In{Way: 9}
	}
	for i, o := range x.Outs {
		for j, w := range o.Ways {
			for k := range w.Keys {
				w.Keys[k] = 77
			}
			_ = append(w.Keys, 78, 79)
			o.Ways[j] = api.Way{After: 9}
		}
		_ = append(o.Ways, api.Way{After: 10})
		x.Outs[i] = api.Out{Amount: 99}
	}
	for i := range x.Signs {
		x.Signs[i] = api.Sign{Key: 99}
	}
}

func Test15_2WhatIsBuiltIsNewMemory(t *testing.T) {
	of, want := cheat(), copied(cheat())
	for range 3 {
		got, e := justice.Build(plain(), of, risingSum(), 3, plainDeal())
		if e != api.OK || !tx.Same(got, takenOf(plain(), 1, of, risingSum(), 3, plainDeal())) {
			t.Errorf("%+v, %v", got, e)
		}
		spoil(got)
		if !reflect.DeepEqual(of, want) {
			t.Errorf("the commitment is %+v, want %+v", of, want)
		}
	}
}

func Test15_2ListsOfAnAnswerShareNothing(t *testing.T) {
	got, _ := justice.Build(plain(), cheat(), risingSum(), 3, plainDeal())
	got.Outs[0].Ways[0].Keys[0] = 50
	got.Outs[0].Ways[0].Wait = 51
	got.Ins[0].Pre[0] = 52
	want := taken(cheat(), 1, risingSum(), paid(1, 81), paid(103, 9))
	want.Outs[0] = api.Out{Amount: 81, Ways: []api.Way{{Keys: []int{50}, Wait: 51}}}
	want.Ins[0].Pre[0] = 52
	if !tx.Same(got, want) {
		t.Errorf("%+v, want %+v", got, want)
	}
}

func Test15_4WhatIsBuiltPassesCheck(t *testing.T) {
	for _, c := range channels() {
		for owner := range 2 {
			for _, n := range rightAmounts {
				of := commitment(c, owner, n, 40, full())
				for _, d := range []justice.Deal{{}, plainDeal(), {Reward: 1000}, {Reward: 999, Fee: 1}, {Reward: 1, Fee: topAmount}} {
					for tower := -1; tower <= topTower; tower++ {
						passes(t, c, of, tower, d)
					}
				}
			}
		}
	}
	for _, change := range oddChanges() {
		passesBy(t, plain(), changed(cheat(), change), risingSum(), 3, plainDeal())
	}
}

// passes holds that what is built by the full secret passes Check.
func passes(t *testing.T, c api.Channel, of api.Tx, tower int, d justice.Deal) {
	t.Helper()
	passesBy(t, c, of, full(), tower, d)
}

// passesBy holds that what is built passes Check, as it is, and read again.
func passesBy(t *testing.T, c api.Channel, of api.Tx, pre api.Sum, tower int, d justice.Deal) {
	t.Helper()
	j, e := justice.Build(c, of, pre, tower, d)
	if e != api.OK {
		t.Errorf("of %+v for %d by %+v: %v", of, tower, d, e)
		return
	}
	b, e := tx.Bytes(j)
	back, f := tx.Read(b)
	if e != api.OK || f != api.OK || justice.Check(c, of, j) != api.OK || justice.Check(c, of, back) != api.OK {
		t.Errorf("of %+v for %d by %+v: %+v does not pass: %v, %v", of, tower, d, j, e, f)
	}
}
