package proof_test

import (
	"math"
	"math/big"
	"testing"

	"bartizan/api"
	"bartizan/proof"
)

// heights are some that are promised, either way, with the edges.
var heights = []int{0, 1, 2, 3, 4, 5, 6, 99, 100, 104, 1 << 30, 1 << 32, topHeight - 1, topHeight, -1, -4, -5, -100, -1 << 32, 1 - topHeight, -topHeight}

// windows are numbers of windows, of those that may be and of those that may not be.
var windows = []int{1, 2, 4, 5, 100, 65535, 65536, 0, -1, -5, 1 << 32, topHeight, 2*topHeight - 1, 2 * topHeight, -2 * topHeight, -2*topHeight - 1, math.MaxInt - 1, math.MaxInt, math.MinInt, math.MinInt + 1}

// farHeights are heights far beyond those that are promised.
var farHeights = []int{0, 5, -5, topHeight + 1, 1 << 62, -1 << 62, math.MaxInt - 4, math.MaxInt, math.MinInt + 4, math.MinInt}

// isWithin tells whether a height is at most a window above another one, by the library's big numbers.
func isWithin(height, at, window int) bool {
	above := new(big.Int).Sub(big.NewInt(int64(height)), big.NewInt(int64(at)))
	return above.Cmp(big.NewInt(int64(window))) <= 0
}

// isSaved holds what Saved tells against what it must tell.
func isSaved(t *testing.T, f proof.Facts, window int, want bool) {
	t.Helper()
	c := plain()
	c.Window = window
	if got := f.Saved(c); got != want {
		t.Errorf("came at %d, taken %v at %d, in %d: %v", f.At, f.Taken, f.When, window, got)
	}
}

func Test17_2SavedInTheWindow(t *testing.T) {
	for when := 90; when <= 104; when++ {
		isSaved(t, proof.Facts{At: 100, Taken: true, When: when}, 4, true)
	}
	for _, when := range []int{105, 106, 200, 1 << 30, topHeight} {
		isSaved(t, proof.Facts{At: 100, Taken: true, When: when}, 4, false)
	}
	isSaved(t, proof.Facts{At: 100, Taken: true, When: 101}, 1, true)
	isSaved(t, proof.Facts{At: 100, Taken: true, When: 102}, 1, false)
	isSaved(t, proof.Facts{At: -100, Taken: true, When: -96}, 4, true)
	isSaved(t, proof.Facts{At: -100, Taken: true, When: -95}, 4, false)
}

func Test17_2WhatWasNotTakenIsNotSaved(t *testing.T) {
	for _, at := range heights {
		for _, when := range heights {
			for _, window := range windows {
				isSaved(t, proof.Facts{At: at, When: when}, window, false)
			}
		}
	}
	if (proof.Facts{}).Saved(api.Channel{}) {
		t.Error("nothing is saved")
	}
}

func Test17_2SavedAtEachHeight(t *testing.T) {
	for _, at := range heights {
		for _, when := range heights {
			for _, window := range windows {
				isSaved(t, proof.Facts{At: at, Taken: true, When: when}, window, isWithin(when, at, window))
			}
		}
	}
}

// Beyond what is promised, too, a call ends, and tells what the words say.
func Test17_2SavedAtFarHeights(t *testing.T) {
	for _, at := range farHeights {
		for _, when := range farHeights {
			for _, window := range windows {
				isSaved(t, proof.Facts{At: at, Taken: true, When: when}, window, isWithin(when, at, window))
			}
		}
	}
}

// It hangs on what was taken, when, and the window alone.
func Test17_2NothingElseCounts(t *testing.T) {
	for _, commit := range []api.Tx{{}, {Ins: []api.In{{}}}, commitment(t, plain(), 7, 60, 0), commitment(t, plain(), 7, 60, 1)} {
		for _, c := range []api.Channel{{Window: 4}, plain(), {Id: -1, Client: -1, Peer: -1, Cap: -1, Wait: -1, Window: 4}} {
			for when, want := range map[int]bool{103: true, 104: true, 105: false} {
				f := proof.Facts{Commit: commit, At: 100, Taken: true, When: when}
				if f.Saved(c) != want {
					t.Errorf("%+v in %+v is %v", f, c, !want)
				}
			}
		}
	}
}
