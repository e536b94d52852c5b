package justice_test

import (
	"math"
	"math/big"
	"testing"

	"bartizan/api"
	"bartizan/justice"
)

// The greatest ones that may be, written out.
const (
	topAmount = 1125899906842624
	topKey    = 255
	topTower  = 15
	topReward = 1000
)

// farNumbers are numbers far below 0, or far above all that may be.
var farNumbers = []int{-2, -3, math.MinInt, math.MinInt + 1, -1 << 32, math.MaxInt, 1 << 62, 1<<63 - 2}

// rightAmounts are amounts that may be, with the edges.
var rightAmounts = []int64{0, 1, 2, 9, 10, 11, 99, 100, 101, 999, 1000, 1001, 1<<32 - 1, 1 << 32, topAmount - 1001, topAmount - 1, topAmount}

// wrongAmounts are amounts that may not be.
var wrongAmounts = []int64{-1, -2, -100, -1 << 32, -topAmount, math.MinInt64, math.MinInt64 + 1, topAmount + 1, 1 << 51, 1 << 62, math.MaxInt64}

// rightRewards are thousandths that may be, with the edges.
var rightRewards = []int{0, 1, 2, 100, 333, 499, 500, 501, 999, topReward}

// wrongRewards are thousandths that may not be.
var wrongRewards = append([]int{-1, topReward + 1, 1 << 16, 1 << 32, 1<<32 + 5}, farNumbers...)

// modelShares are the shares that must be, by the library's big numbers.
func modelShares(n int64, d justice.Deal) (victim, tower, fee int64) {
	fee = d.Fee
	if fee > n {
		fee = n
	}
	rest := new(big.Int).Sub(big.NewInt(n), big.NewInt(fee))
	of := new(big.Int).Mul(rest, big.NewInt(int64(d.Reward)))
	of.Div(of, big.NewInt(1000))
	return rest.Sub(rest, of).Int64(), of.Int64(), fee
}

// areShares holds the shares of a part against those that must be.
func areShares(t *testing.T, n int64, d justice.Deal, victim, tower, fee int64) {
	t.Helper()
	v, w, f, e := justice.Shares(n, d)
	if v != victim || w != tower || f != fee || e != api.OK {
		t.Errorf("of %d by %+v: %d, %d, %d, %v, want %d, %d, %d", n, d, v, w, f, e, victim, tower, fee)
	}
}

// areNoShares holds what is told of a part against ErrArg and nothing.
func areNoShares(t *testing.T, n int64, d justice.Deal) {
	t.Helper()
	v, w, f, e := justice.Shares(n, d)
	if v != 0 || w != 0 || f != 0 || e != api.ErrArg {
		t.Errorf("of %d by %+v: %d, %d, %d, %v, want ErrArg, and nothing", n, d, v, w, f, e)
	}
}

func Test15_1Key(t *testing.T) {
	if justice.Base != 100 {
		t.Errorf("the base is %d", justice.Base)
	}
	for tower := range 16 {
		if got := justice.Key(tower); got != 100+tower {
			t.Errorf("the key of %d is %d", tower, got)
		}
	}
	for n, want := range map[int]int{-1: 99, -100: 0, 16: 116, 155: 255, 1 << 32: 1<<32 + 100, math.MinInt: math.MinInt + 100} {
		if got := justice.Key(n); got != want {
			t.Errorf("the key of %d is %d, want %d", n, got, want)
		}
	}
}

func Test15_1SharesOfAHundred(t *testing.T) {
	areShares(t, 100, justice.Deal{Reward: 100, Fee: 10}, 81, 9, 10)
	areShares(t, 100, justice.Deal{}, 100, 0, 0)
	areShares(t, 100, justice.Deal{Reward: 1000}, 0, 100, 0)
	areShares(t, 100, justice.Deal{Fee: 99, Reward: 999}, 1, 0, 99)
	areShares(t, 100, justice.Deal{Fee: 99, Reward: 1000}, 0, 1, 99)
	areShares(t, 100, justice.Deal{Fee: 100, Reward: 500}, 0, 0, 100)
	areShares(t, 100, justice.Deal{Fee: 101, Reward: 500}, 0, 0, 100)
	areShares(t, 100, justice.Deal{Fee: topAmount, Reward: 1}, 0, 0, 100)
	areShares(t, 0, justice.Deal{Fee: 7, Reward: 7}, 0, 0, 0)
	areShares(t, topAmount, justice.Deal{Reward: 1}, 1124774006935782, 1125899906842, 0)
	areShares(t, topAmount, justice.Deal{Reward: 1000}, 0, topAmount, 0)
	areShares(t, topAmount, justice.Deal{Fee: topAmount, Reward: 1000}, 0, 0, topAmount)
}

func Test15_1SharesOfEachSmallPart(t *testing.T) {
	for n := range int64(30) {
		for fee := range int64(33) {
			for reward := range topReward + 1 {
				d := justice.Deal{Reward: reward, Fee: fee}
				victim, tower, mined := modelShares(n, d)
				areShares(t, n, d, victim, tower, mined)
			}
		}
	}
}

func Test15_1SharesAroundTheEdges(t *testing.T) {
	for _, n := range rightAmounts {
		for _, fee := range rightAmounts {
			for _, reward := range rightRewards {
				d := justice.Deal{Reward: reward, Fee: fee}
				victim, tower, mined := modelShares(n, d)
				areShares(t, n, d, victim, tower, mined)
			}
		}
	}
}

// What all three get is the part: nothing is lost, and nothing is made.
func Test15_1SharesComeToThePart(t *testing.T) {
	for i := range int64(100000) {
		n := i * 7919 * 104729 % (topAmount + 1)
		d := justice.Deal{Reward: int(i * 31 % 1001), Fee: i * i * 65537 % (topAmount + 1) >> (i % 51)}
		victim, tower, fee, e := justice.Shares(n, d)
		if e != api.OK || victim < 0 || tower < 0 || fee < 0 || victim+tower+fee != n {
			t.Errorf("of %d by %+v: %d, %d, %d, %v", n, d, victim, tower, fee, e)
		}
	}
}

func Test15_1WrongPartsAndDeals(t *testing.T) {
	for _, n := range wrongAmounts {
		areNoShares(t, n, justice.Deal{Reward: 100, Fee: 10})
		areNoShares(t, n, justice.Deal{})
		areNoShares(t, 100, justice.Deal{Reward: 100, Fee: n})
		areNoShares(t, 0, justice.Deal{Fee: n})
		for _, m := range wrongAmounts {
			areNoShares(t, n, justice.Deal{Fee: m})
		}
	}
	for _, reward := range wrongRewards {
		areNoShares(t, 100, justice.Deal{Reward: reward, Fee: 10})
		areNoShares(t, 0, justice.Deal{Reward: reward})
		areNoShares(t, topAmount, justice.Deal{Reward: reward, Fee: topAmount})
		areNoShares(t, -1, justice.Deal{Reward: reward, Fee: -1})
	}
}
