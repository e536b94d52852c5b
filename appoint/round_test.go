package appoint_test

import (
	"sync"
	"testing"

	"bartizan/api"
	"bartizan/appoint"
	"bartizan/commit"
	"bartizan/justice"
	"bartizan/secret"
	"bartizan/tx"
)

// comesBack holds that a transaction, covered, is uncovered as it was.
func comesBack(t *testing.T, sum api.Sum, x api.Tx) {
	t.Helper()
	b, e := appoint.Cover(sum, x)
	if e != api.OK || len(b) != len(packed(x))+16 {
		t.Errorf("%d bytes are covered to %d, %v", len(packed(x)), len(b), e)
	}
	isUncovered(t, sum, b, x)
}

func Test16_4WhatIsCoveredIsUncovered(t *testing.T) {
	for _, sum := range sums() {
		for _, x := range rightTxs() {
			comesBack(t, sum, x)
		}
		for _, n := range []int{20000, topText - 16, topText - 15, topText - 1, topText} {
			comesBack(t, sum, ofLength(t, n, rich()))
		}
	}
}

func Test16_4EachLengthIsUncovered(t *testing.T) {
	for n := range 200 {
		comesBack(t, risingSum(), long(n))
		x := rich()
		x.Ins[0].Pre = noise(n % 65)
		comesBack(t, full(), x)
	}
}

func Test16_4WhatAJobHasIsUncovered(t *testing.T) {
	for _, sum := range sums() {
		for i, x := range rightTxs() {
			j, e := appoint.Make(i, topNumber-i, sum, x)
			if e != api.OK || j.Hint != appoint.Hint(sum) {
				t.Fatal(e)
			}
			isUncovered(t, sum, j.Blob, x)
			back, e := appoint.Get(j.Put())
			if e != api.OK || !back.Fits(j.Receipt(3)) {
				t.Fatal(e)
			}
			isUncovered(t, sum, back.Blob, x)
		}
	}
}

// One cover is under its own commitment alone.
func Test16_4OtherCommitmentsUncoverNothing(t *testing.T) {
	for _, first := range sums() {
		b, _ := appoint.Cover(first, rich())
		for _, second := range sums() {
			if first == second {
				isUncovered(t, second, b, rich())
				continue
			}
			isRefused(t, "of another commitment", second, b, api.ErrForm)
		}
		isRefused(t, "by the hint", appoint.Hint(first), b, api.ErrForm)
		isRefused(t, "by the mark", appoint.Mark(b), b, api.ErrForm)
	}
}

// A tower that has but a job takes the part of who cheats, once the commitment came.
func Test16_4ATowerTakesThePart(t *testing.T) {
	c := api.Channel{Id: 1, Client: 1, Peer: 2, Fund: api.Ref{Tx: api.Sum{7}, At: 3}, Cap: 100, Wait: 6, Window: 4}
	s := commit.State{N: 7, Client: 60, Peer: 40, Hashes: [2]api.Sum{secret.Point(api.Sum{1}, 7), secret.Point(api.Sum{2}, 7)}}
	cheat, e := commit.Build(c, s, 1)
	if e != api.OK {
		t.Fatal(e)
	}
	x, e := justice.Build(c, cheat, secret.Of(api.Sum{2}, 7), 3, justice.Deal{Reward: 100, Fee: 10})
	if e != api.OK {
		t.Fatal(e)
	}
	made, e := appoint.Make(c.Id, s.N, tx.Sum(cheat), x)
	if e != api.OK {
		t.Fatal(e)
	}
	j, e := appoint.Get(made.Put())
	if e != api.OK || !made.Fits(j.Receipt(3)) {
		t.Fatal(e)
	}
	came := tx.Sum(tx.Signed(cheat, 1, 2))
	if j.Hint != appoint.Hint(came) {
		t.Fatal("the tower does not know it")
	}
	back, e := appoint.Uncover(came, j.Blob)
	if e != api.OK || justice.Check(c, cheat, back) != api.OK {
		t.Errorf("it does not take the part: %+v, %v", back, e)
	}
	own, e := commit.Build(c, s, 0)
	if e != api.OK || j.Hint == appoint.Hint(tx.Sum(own)) {
		t.Error("the client's commitment is taken for it")
	}
	isRefused(t, "of the client's commitment", tx.Sum(own), j.Blob, api.ErrForm)
}

// No call hangs on another one, done ahead or at the same time.
func Test16_4NothingIsKept(t *testing.T) {
	var all sync.WaitGroup
	for i := range 8 {
		all.Go(func() {
			for n := range 50 {
				sum := api.Sum{byte(i), byte(n)}
				comesBack(t, sum, long(n*i))
				isMade(t, i, n, sum, rich())
				isRefused(t, "zeros", sum, make([]byte, n+16), api.ErrForm)
				isNoJob(t, -1, n, sum, rich(), api.ErrArg)
			}
		})
	}
	all.Wait()
}
