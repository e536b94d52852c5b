package bond_test

import (
	"math"
	"reflect"
	"slices"
	"testing"

	"bartizan/api"
	"bartizan/bond"
)

// The greatest ones that may be, written out.
const (
	topAmount = 1125899906842624
	topTower  = 15
	topHeight = 1 << 40
)

// root is a tower's root, each of another number another one.
func root(n byte) api.Sum {
	return api.Sum{31: n + 1}
}

// channel is a channel of which each field says something.
func channel(id int, whole int64) api.Channel {
	return api.Channel{Id: id, Client: 3, Peer: 4, Fund: api.Ref{Tx: api.Sum{5}, At: 6}, Cap: whole, Wait: 7, Window: 8}
}

// bounds are numbers of towers and channels at the edges.
func bounds() []int {
	return []int{0, 1, 2, 14, 15, -1, 16, 17, 255, math.MinInt, math.MaxInt}
}

// asked are the towers and channels that the tests ask for: those of bounds, and all that they lock or hold for.
func asked() []int {
	return append(bounds(), 3, 4, 5, 6, 7, 8, 9, 10, 11, 12, 13)
}

// told is all that a board tells of the towers and channels of asked.
type told struct {
	towers []int
	total  int64
	got    map[int]bond.Tower
	free   map[int]int64
	held   map[int]int64
	holds  map[[2]int]bond.Hold
}

func tell(t *testing.T, b *bond.Board) told {
	t.Helper()
	all := told{b.Towers(), b.Total(), map[int]bond.Tower{}, map[int]int64{}, map[int]int64{}, map[[2]int]bond.Hold{}}
	for _, tower := range asked() {
		got, ok := b.Get(tower)
		if ok {
			all.got[tower] = got
		} else if got != (bond.Tower{}) {
			t.Errorf("beside false, the tower %d is %v", tower, got)
		}
		if n := b.Free(tower); n != 0 {
			all.free[tower] = n
		}
		if n := b.Held(tower); n != 0 {
			all.held[tower] = n
		}
		for _, id := range asked() {
			h, ok := b.Holds(tower, id)
			if ok {
				all.holds[[2]int{tower, id}] = h
			} else if h != (bond.Hold{}) {
				t.Errorf("beside false, %d holds %v for %d", tower, h, id)
			}
		}
	}
	return all
}

// isAlike holds what a board tells against what it is to tell.
func isAlike(t *testing.T, b *bond.Board, want told) {
	t.Helper()
	if got := tell(t, b); !reflect.DeepEqual(got, want) {
		t.Errorf("the board tells %v, want %v", got, want)
	}
}

// isError holds the error of an act: with one, what the board tells has not changed.
func isError(t *testing.T, b *bond.Board, what string, want api.Errno, act func() api.Errno) {
	t.Helper()
	before := tell(t, b)
	if e := act(); e != want {
		t.Errorf("%s has %v, want %v", what, e, want)
	}
	if want != api.OK {
		isAlike(t, b, before)
	}
}

func isLocked(t *testing.T, b *bond.Board, want api.Errno, tower int, n int64, root api.Sum) {
	t.Helper()
	isError(t, b, "Lock", want, func() api.Errno { return b.Lock(tower, n, root) })
}

func isHeld(t *testing.T, b *bond.Board, want api.Errno, tower int, c api.Channel) {
	t.Helper()
	isError(t, b, "Hold", want, func() api.Errno { return b.Hold(tower, c) })
}

func isLet(t *testing.T, b *bond.Board, want api.Errno, tower, id int) {
	t.Helper()
	isError(t, b, "Let", want, func() api.Errno { return b.Let(tower, id) })
}

func isAsked(t *testing.T, b *bond.Board, want api.Errno, tower int, n int64, height int) {
	t.Helper()
	isError(t, b, "Ask", want, func() api.Errno { return b.Ask(tower, n, height) })
}

func isProved(t *testing.T, b *bond.Board, want api.Errno, tower, id, height int, commit api.Sum) {
	t.Helper()
	isError(t, b, "Prove", want, func() api.Errno { return b.Prove(tower, id, height, commit) })
}

func isTaken(t *testing.T, b *bond.Board, wantN int64, want api.Errno, tower, height int) {
	t.Helper()
	isError(t, b, "Take", want, func() api.Errno {
		n, e := b.Take(tower, height)
		if n != wantN {
			t.Errorf("%d takes %d, want %d", tower, n, wantN)
		}
		return e
	})
}

func isSettled(t *testing.T, b *bond.Board, wantN int64, want api.Errno, tower, id, height int) {
	t.Helper()
	isError(t, b, "Settle", want, func() api.Errno {
		n, e := b.Settle(tower, id, height)
		if n != wantN {
			t.Errorf("of %d for %d are settled %d, want %d", tower, id, n, wantN)
		}
		return e
	})
}

// isTower holds what a tower has, holds, and has free.
func isTower(t *testing.T, b *bond.Board, tower int, want bond.Tower, held, free int64) {
	t.Helper()
	if got, ok := b.Get(tower); !ok || got != want {
		t.Errorf("the tower %d is %v, %v, want %v", tower, got, ok, want)
	}
	if n := b.Held(tower); n != held {
		t.Errorf("%d holds %d, want %d", tower, n, held)
	}
	if n := b.Free(tower); n != free {
		t.Errorf("of %d are free %d, want %d", tower, n, free)
	}
}

func isNoTower(t *testing.T, b *bond.Board, tower int) {
	t.Helper()
	if got, ok := b.Get(tower); ok || got != (bond.Tower{}) {
		t.Errorf("the tower %d is %v, %v, want none", tower, got, ok)
	}
	if held, free := b.Held(tower), b.Free(tower); held != 0 || free != 0 {
		t.Errorf("%d holds %d, and has free %d, want none", tower, held, free)
	}
}

func isHold(t *testing.T, b *bond.Board, tower, id int, want bond.Hold) {
	t.Helper()
	if got, ok := b.Holds(tower, id); !ok || got != want {
		t.Errorf("%d holds %v, %v for %d, want %v", tower, got, ok, id, want)
	}
}

func isNoHold(t *testing.T, b *bond.Board, tower, id int) {
	t.Helper()
	if got, ok := b.Holds(tower, id); ok || got != (bond.Hold{}) {
		t.Errorf("%d holds %v, %v for %d, want nothing", tower, got, ok, id)
	}
}

func isTotal(t *testing.T, b *bond.Board, want int64) {
	t.Helper()
	if n := b.Total(); n != want {
		t.Errorf("all have locked %d, want %d", n, want)
	}
}

func areTowers(t *testing.T, b *bond.Board, want ...int) {
	t.Helper()
	if got := b.Towers(); !slices.Equal(got, want) {
		t.Errorf("the towers are %v, want %v", got, want)
	}
}

// locked is a board on which the tower 1 has locked 100, and the tower 2 has locked 50.
func locked(t *testing.T) *bond.Board {
	t.Helper()
	b := bond.New()
	isLocked(t, b, api.OK, 1, 100, root(1))
	isLocked(t, b, api.OK, 2, 50, root(2))
	return b
}

// nothing is what a board without towers tells.
func nothing() told {
	return told{nil, 0, map[int]bond.Tower{}, map[int]int64{}, map[int]int64{}, map[[2]int]bond.Hold{}}
}

func Test10_1NewHasNoTowers(t *testing.T) {
	b := bond.New()
	isAlike(t, b, nothing())
	isLocked(t, b, api.OK, 1, 2, root(1))
	isAlike(t, bond.New(), nothing())
}

func Test10_1LockOfEachTower(t *testing.T) {
	b := bond.New()
	for tower := topTower; tower >= 0; tower-- {
		isLocked(t, b, api.OK, tower, int64(tower+1), root(byte(tower)))
	}
	for tower := range topTower + 1 {
		isTower(t, b, tower, bond.Tower{Root: root(byte(tower)), Locked: int64(tower + 1)}, 0, int64(tower+1))
	}
	isTotal(t, b, 136)
	areTowers(t, b, 0, 1, 2, 3, 4, 5, 6, 7, 8, 9, 10, 11, 12, 13, 14, 15)
}

func Test10_1LockRefusesTowers(t *testing.T) {
	b := bond.New()
	for _, tower := range []int{-1, 16, 17, 255, 256, math.MinInt, math.MaxInt} {
		isLocked(t, b, api.ErrArg, tower, 1, root(1))
		isNoTower(t, b, tower)
	}
	areTowers(t, b)
}

func Test10_1LockRefusesAmountsAndRoots(t *testing.T) {
	b := bond.New()
	for _, n := range []int64{0, -1, -topAmount, math.MinInt64} {
		isLocked(t, b, api.ErrArg, 1, n, root(1))
	}
	isLocked(t, b, api.ErrArg, 1, 5, api.Sum{})
	areTowers(t, b)
	for i := range len(api.Sum{}) {
		var one api.Sum
		one[i] = 1
		c := bond.New()
		isLocked(t, c, api.OK, 1, 5, one)
		isTower(t, c, 1, bond.Tower{Root: one, Locked: 5}, 0, 5)
	}
	isLocked(t, b, api.OK, 1, 1, root(1))
	isTower(t, b, 1, bond.Tower{Root: root(1), Locked: 1}, 0, 1)
	isLocked(t, b, api.ErrArg, 1, 5, api.Sum{})
	isLocked(t, b, api.ErrArg, 1, 0, root(1))
}

func Test10_1LockAddsUnderOneRoot(t *testing.T) {
	b := locked(t)
	isLocked(t, b, api.OK, 1, 7, root(1))
	isTower(t, b, 1, bond.Tower{Root: root(1), Locked: 107}, 0, 107)
	isTower(t, b, 2, bond.Tower{Root: root(2), Locked: 50}, 0, 50)
	for i := range len(api.Sum{}) {
		other := root(1)
		other[i] ^= 0x80
		isLocked(t, b, api.ErrTwice, 1, 7, other)
	}
	isLocked(t, b, api.OK, 3, 7, root(1))
	isTower(t, b, 3, bond.Tower{Root: root(1), Locked: 7}, 0, 7)
	isTotal(t, b, 164)
}

func Test10_1LockKeepsWhatWasAskedAndHeld(t *testing.T) {
	b := locked(t)
	isHeld(t, b, api.OK, 1, channel(9, 60))
	isAsked(t, b, api.OK, 1, 30, 77)
	isLocked(t, b, api.OK, 1, 5, root(1))
	isTower(t, b, 1, bond.Tower{Root: root(1), Locked: 105, Asked: 30, At: 77}, 60, 15)
	isHold(t, b, 1, 9, bond.Hold{Channel: channel(9, 60), Amount: 60})
}

func Test10_1LockOfAllThatMayBe(t *testing.T) {
	b := bond.New()
	isLocked(t, b, api.ErrRange, 1, topAmount+1, root(1))
	isLocked(t, b, api.ErrRange, 1, math.MaxInt64, root(1))
	areTowers(t, b)
	isLocked(t, b, api.OK, 1, topAmount-3, root(1))
	isLocked(t, b, api.ErrOver, 2, 4, root(2))
	isNoTower(t, b, 2)
	isLocked(t, b, api.ErrOver, 1, 4, root(1))
	isLocked(t, b, api.ErrOver, 1, topAmount, root(1))
	isLocked(t, b, api.ErrRange, 1, topAmount+1, root(1))
	isLocked(t, b, api.OK, 2, 1, root(2))
	isLocked(t, b, api.OK, 1, 2, root(1))
	isTotal(t, b, topAmount)
	isLocked(t, b, api.ErrOver, 1, 1, root(1))
	isLocked(t, b, api.ErrOver, 3, 1, root(3))
	areTowers(t, b, 1, 2)
}

func Test10_1LockHasItsFirstErrorFirst(t *testing.T) {
	b := locked(t)
	isLocked(t, b, api.ErrArg, 16, topAmount+1, root(9))
	isLocked(t, b, api.ErrArg, 1, 0, root(9))
	isLocked(t, b, api.ErrArg, 1, topAmount+1, api.Sum{})
	isLocked(t, b, api.ErrTwice, 1, topAmount+1, root(9))
	isLocked(t, b, api.ErrTwice, 1, topAmount, root(9))
}

func Test10_1HoldHoldsTheWholeChannel(t *testing.T) {
	b := locked(t)
	isHeld(t, b, api.OK, 1, channel(9, 60))
	isHold(t, b, 1, 9, bond.Hold{Channel: channel(9, 60), Amount: 60})
	isTower(t, b, 1, bond.Tower{Root: root(1), Locked: 100}, 60, 40)
	isTower(t, b, 2, bond.Tower{Root: root(2), Locked: 50}, 0, 50)
	isNoHold(t, b, 2, 9)
	isNoHold(t, b, 1, 8)
	isNoHold(t, b, 9, 1)
	isHeld(t, b, api.OK, 2, channel(9, 50))
	isHeld(t, b, api.OK, 1, channel(1, 40))
	isHold(t, b, 2, 9, bond.Hold{Channel: channel(9, 50), Amount: 50})
	isHold(t, b, 1, 1, bond.Hold{Channel: channel(1, 40), Amount: 40})
	isTower(t, b, 1, bond.Tower{Root: root(1), Locked: 100}, 100, 0)
	isTower(t, b, 2, bond.Tower{Root: root(2), Locked: 50}, 50, 0)
	isTotal(t, b, 150)
}

func Test10_1HoldAsksNothingElseOfTheChannel(t *testing.T) {
	b := locked(t)
	odd := api.Channel{Id: math.MinInt, Client: -1, Peer: 999, Cap: 1, Wait: -5, Window: math.MaxInt}
	isHeld(t, b, api.OK, 1, odd)
	isHold(t, b, 1, math.MinInt, bond.Hold{Channel: odd, Amount: 1})
	for i, id := range bounds()[:9] {
		c := channel(id, int64(i)+1)
		isHeld(t, b, api.OK, 1, c)
		isHold(t, b, 1, id, bond.Hold{Channel: c, Amount: int64(i) + 1})
	}
	isTower(t, b, 1, bond.Tower{Root: root(1), Locked: 100}, 46, 54)
}

func Test10_1HoldRefusesCaps(t *testing.T) {
	b := bond.New()
	isLocked(t, b, api.OK, 1, topAmount, root(1))
	for _, whole := range []int64{0, -1, math.MinInt64, topAmount + 1, math.MaxInt64} {
		isHeld(t, b, api.ErrArg, 1, channel(9, whole))
		isHeld(t, b, api.ErrArg, 7, channel(9, whole))
	}
	isHeld(t, b, api.OK, 1, channel(9, topAmount))
	isTower(t, b, 1, bond.Tower{Root: root(1), Locked: topAmount}, topAmount, 0)
	isHeld(t, b, api.ErrArg, 1, channel(9, 0))
	isHeld(t, b, api.ErrTwice, 1, channel(9, topAmount))
	isHeld(t, b, api.ErrBond, 1, channel(8, 1))
	isHeld(t, b, api.ErrBond, 1, channel(8, topAmount))
}

func Test10_1HoldOfNoTower(t *testing.T) {
	b := locked(t)
	for _, tower := range []int{0, 3, 15, -1, 16, math.MinInt, math.MaxInt} {
		isHeld(t, b, api.ErrTower, tower, channel(9, 1))
		isHeld(t, b, api.ErrTower, tower, channel(9, topAmount))
	}
}

func Test10_1HoldOnceForAChannel(t *testing.T) {
	b := locked(t)
	isHeld(t, b, api.OK, 1, channel(9, 60))
	isHeld(t, b, api.ErrTwice, 1, channel(9, 60))
	isHeld(t, b, api.ErrTwice, 1, channel(9, 1))
	isHeld(t, b, api.ErrTwice, 1, channel(9, topAmount))
	isHeld(t, b, api.ErrTwice, 1, api.Channel{Id: 9, Cap: 1})
	isProved(t, b, api.OK, 1, 9, 5, api.Sum{1})
	isHeld(t, b, api.ErrTwice, 1, channel(9, 1))
	isHeld(t, b, api.OK, 2, channel(9, 1))
}

func Test10_1HoldTakesWhatIsFree(t *testing.T) {
	b := bond.New()
	isLocked(t, b, api.OK, 1, 5, root(1))
	isHeld(t, b, api.ErrBond, 1, channel(9, 6))
	isHeld(t, b, api.OK, 1, channel(9, 5))
	b = locked(t)
	isAsked(t, b, api.OK, 1, 30, 0)
	isHeld(t, b, api.ErrBond, 1, channel(9, 71))
	isHeld(t, b, api.OK, 1, channel(9, 40))
	isHeld(t, b, api.ErrBond, 1, channel(8, 31))
	isHeld(t, b, api.OK, 1, channel(8, 30))
	isHeld(t, b, api.ErrBond, 1, channel(7, 1))
	isLocked(t, b, api.OK, 1, 1, root(1))
	isHeld(t, b, api.OK, 1, channel(7, 1))
	isTower(t, b, 1, bond.Tower{Root: root(1), Locked: 101, Asked: 30}, 71, 0)
}

func Test10_1LetLetsGo(t *testing.T) {
	b := locked(t)
	isHeld(t, b, api.OK, 1, channel(9, 60))
	isHeld(t, b, api.OK, 1, channel(8, 30))
	isHeld(t, b, api.OK, 2, channel(9, 50))
	isLet(t, b, api.OK, 1, 9)
	isNoHold(t, b, 1, 9)
	isHold(t, b, 1, 8, bond.Hold{Channel: channel(8, 30), Amount: 30})
	isHold(t, b, 2, 9, bond.Hold{Channel: channel(9, 50), Amount: 50})
	isTower(t, b, 1, bond.Tower{Root: root(1), Locked: 100}, 30, 70)
	isTower(t, b, 2, bond.Tower{Root: root(2), Locked: 50}, 50, 0)
	isLet(t, b, api.ErrNone, 1, 9)
	isHeld(t, b, api.OK, 1, channel(9, 70))
	isTotal(t, b, 150)
}

func Test10_1LetOfNoHold(t *testing.T) {
	b := locked(t)
	isHeld(t, b, api.OK, 1, channel(9, 60))
	isLet(t, b, api.ErrNone, 9, 1)
	isLet(t, b, api.ErrNone, 2, 9)
	isLet(t, b, api.ErrNone, 3, 9)
	for _, n := range bounds() {
		isLet(t, b, api.ErrNone, 1, n)
		if n != 1 {
			isLet(t, b, api.ErrNone, n, 9)
		}
	}
}

func Test10_1LetNotWhileAProofWaits(t *testing.T) {
	b := locked(t)
	isHeld(t, b, api.OK, 1, channel(9, 60))
	isHeld(t, b, api.OK, 1, channel(8, 30))
	isHeld(t, b, api.OK, 2, channel(9, 50))
	isProved(t, b, api.OK, 1, 9, 0, api.Sum{})
	isLet(t, b, api.ErrState, 1, 9)
	isLet(t, b, api.OK, 1, 8)
	isLet(t, b, api.OK, 2, 9)
	isSettled(t, b, 60, api.OK, 1, 9, 3)
	isLet(t, b, api.ErrNone, 1, 9)
}

func Test10_2AskOfWhatIsFree(t *testing.T) {
	b := locked(t)
	isHeld(t, b, api.OK, 1, channel(9, 60))
	for _, n := range []int64{0, -1, math.MinInt64, 41, 100, topAmount, math.MaxInt64} {
		isAsked(t, b, api.ErrBond, 1, n, 7)
	}
	isAsked(t, b, api.OK, 1, 40, 7)
	isTower(t, b, 1, bond.Tower{Root: root(1), Locked: 100, Asked: 40, At: 7}, 60, 0)
	isAsked(t, b, api.OK, 2, 1, -7)
	isTower(t, b, 2, bond.Tower{Root: root(2), Locked: 50, Asked: 1, At: -7}, 0, 49)
	isTotal(t, b, 150)
}

func Test10_2AskOfNothingFree(t *testing.T) {
	b := locked(t)
	isHeld(t, b, api.OK, 1, channel(9, 100))
	isAsked(t, b, api.ErrBond, 1, 1, 7)
	isAsked(t, b, api.ErrBond, 1, 0, 7)
	isLet(t, b, api.OK, 1, 9)
	isAsked(t, b, api.OK, 1, 100, 7)
}

func Test10_2AskHasItsFirstErrorFirst(t *testing.T) {
	b := locked(t)
	for _, tower := range []int{0, 3, 15, -1, 16, math.MinInt, math.MaxInt} {
		isAsked(t, b, api.ErrTower, tower, 1, 7)
		isAsked(t, b, api.ErrTower, tower, 0, 7)
	}
	isAsked(t, b, api.OK, 1, 10, 7)
	for _, n := range []int64{1, 90, 91, 0, -1} {
		isAsked(t, b, api.ErrState, 1, n, 8)
	}
	isTower(t, b, 1, bond.Tower{Root: root(1), Locked: 100, Asked: 10, At: 7}, 0, 90)
	isAsked(t, b, api.OK, 2, 50, 8)
}

func Test10_2TakeBehindTheDelay(t *testing.T) {
	if bond.Delay != 12 {
		t.Errorf("the delay is %d, want 12", bond.Delay)
	}
	for _, at := range []int{0, 1, 7, 1 << 30, -1, -5, -12, -13, topHeight - 12, -topHeight} {
		b := locked(t)
		isHeld(t, b, api.OK, 1, channel(9, 60))
		isAsked(t, b, api.OK, 1, 40, at)
		for _, early := range []int{at + 11, at + 10, at + 3, at + 1, at, at - 1, -topHeight} {
			isTaken(t, b, 0, api.ErrEarly, 1, early)
		}
		isTaken(t, b, 40, api.OK, 1, at+12)
		isTower(t, b, 1, bond.Tower{Root: root(1), Locked: 60}, 60, 0)
		isTower(t, b, 2, bond.Tower{Root: root(2), Locked: 50}, 0, 50)
		isTotal(t, b, 110)
		isTaken(t, b, 0, api.ErrNone, 1, at+12)
		isAsked(t, b, api.ErrBond, 1, 1, at+12)
	}
}

func Test10_2TakeMuchLater(t *testing.T) {
	b := locked(t)
	isAsked(t, b, api.OK, 1, 40, 7)
	isTaken(t, b, 40, api.OK, 1, topHeight)
	isAsked(t, b, api.OK, 1, 50, -topHeight)
	isTaken(t, b, 50, api.OK, 1, topHeight)
	isAsked(t, b, api.OK, 1, 10, topHeight)
	isTaken(t, b, 0, api.ErrEarly, 1, -topHeight)
	isTower(t, b, 1, bond.Tower{Root: root(1), Locked: 10, Asked: 10, At: topHeight}, 0, 0)
}

func Test10_2TakeOfNothing(t *testing.T) {
	b := locked(t)
	for _, tower := range []int{0, 3, 15, -1, 16, math.MinInt, math.MaxInt} {
		isTaken(t, b, 0, api.ErrTower, tower, 50)
	}
	isTaken(t, b, 0, api.ErrNone, 1, 50)
	isTaken(t, b, 0, api.ErrNone, 1, 0)
	isTaken(t, b, 0, api.ErrNone, 1, -50)
	isAsked(t, b, api.OK, 2, 5, 0)
	isTaken(t, b, 0, api.ErrNone, 1, 50)
	isTaken(t, b, 5, api.OK, 2, 50)
}

func Test10_2WhoTookAllIsATowerStill(t *testing.T) {
	b := locked(t)
	isAsked(t, b, api.OK, 1, 100, 9)
	isTaken(t, b, 100, api.OK, 1, 21)
	isTower(t, b, 1, bond.Tower{Root: root(1)}, 0, 0)
	areTowers(t, b, 1, 2)
	isTotal(t, b, 50)
	isHeld(t, b, api.ErrBond, 1, channel(9, 1))
	isAsked(t, b, api.ErrBond, 1, 1, 21)
	isTaken(t, b, 0, api.ErrNone, 1, 50)
	isLocked(t, b, api.ErrTwice, 1, 5, root(7))
	isLocked(t, b, api.OK, 1, 5, root(1))
	isTower(t, b, 1, bond.Tower{Root: root(1), Locked: 5}, 0, 5)
}

func Test10_2WhatWasTakenMayBeLockedAgain(t *testing.T) {
	b := bond.New()
	isLocked(t, b, api.OK, 1, topAmount, root(1))
	isAsked(t, b, api.OK, 1, 10, 0)
	isLocked(t, b, api.ErrOver, 2, 1, root(2))
	isTaken(t, b, 10, api.OK, 1, 12)
	isLocked(t, b, api.ErrOver, 2, 11, root(2))
	isLocked(t, b, api.OK, 2, 10, root(2))
	isTotal(t, b, topAmount)
}

func Test10_3ProveWaits(t *testing.T) {
	b := locked(t)
	isHeld(t, b, api.OK, 1, channel(9, 60))
	isHeld(t, b, api.OK, 1, channel(8, 30))
	isHeld(t, b, api.OK, 2, channel(9, 50))
	isProved(t, b, api.OK, 1, 9, 77, api.Sum{4, 31: 5})
	isHold(t, b, 1, 9, bond.Hold{Channel: channel(9, 60), Amount: 60, Proved: true, At: 77, Commit: api.Sum{4, 31: 5}})
	isHold(t, b, 1, 8, bond.Hold{Channel: channel(8, 30), Amount: 30})
	isHold(t, b, 2, 9, bond.Hold{Channel: channel(9, 50), Amount: 50})
	isTower(t, b, 1, bond.Tower{Root: root(1), Locked: 100}, 90, 10)
	isProved(t, b, api.ErrState, 1, 9, 78, api.Sum{6})
	isProved(t, b, api.ErrState, 1, 9, 77, api.Sum{4, 31: 5})
	isProved(t, b, api.OK, 2, 9, -77, api.Sum{})
	isHold(t, b, 2, 9, bond.Hold{Channel: channel(9, 50), Amount: 50, Proved: true, At: -77})
	isTotal(t, b, 150)
}

func Test10_3ProveOfNoHold(t *testing.T) {
	b := locked(t)
	isHeld(t, b, api.OK, 1, channel(9, 60))
	isProved(t, b, api.ErrNone, 9, 1, 5, api.Sum{1})
	isProved(t, b, api.ErrNone, 2, 9, 5, api.Sum{1})
	for _, n := range bounds() {
		isProved(t, b, api.ErrNone, 1, n, 5, api.Sum{1})
		if n != 1 {
			isProved(t, b, api.ErrNone, n, 9, 5, api.Sum{1})
		}
	}
	isLet(t, b, api.OK, 1, 9)
	isProved(t, b, api.ErrNone, 1, 9, 5, api.Sum{1})
}

func Test10_3SettleBehindThePause(t *testing.T) {
	if bond.Pause != 3 {
		t.Errorf("the pause is %d, want 3", bond.Pause)
	}
	for _, at := range []int{0, 1, 7, 1 << 30, -1, -2, -3, -4, topHeight - 3, -topHeight} {
		b := locked(t)
		isHeld(t, b, api.OK, 1, channel(9, 60))
		isHeld(t, b, api.OK, 1, channel(8, 30))
		isHeld(t, b, api.OK, 2, channel(9, 50))
		isProved(t, b, api.OK, 1, 9, at, api.Sum{4})
		for _, early := range []int{at + 2, at + 1, at, at - 1, -topHeight} {
			isSettled(t, b, 0, api.ErrEarly, 1, 9, early)
		}
		isSettled(t, b, 60, api.OK, 1, 9, at+3)
		isNoHold(t, b, 1, 9)
		isHold(t, b, 1, 8, bond.Hold{Channel: channel(8, 30), Amount: 30})
		isHold(t, b, 2, 9, bond.Hold{Channel: channel(9, 50), Amount: 50})
		isTower(t, b, 1, bond.Tower{Root: root(1), Locked: 40}, 30, 10)
		isTower(t, b, 2, bond.Tower{Root: root(2), Locked: 50}, 50, 0)
		isTotal(t, b, 90)
		isSettled(t, b, 0, api.ErrNone, 1, 9, at+3)
	}
}

func Test10_3SettleMuchLater(t *testing.T) {
	b := locked(t)
	isHeld(t, b, api.OK, 1, channel(9, 60))
	isHeld(t, b, api.OK, 2, channel(9, 50))
	isProved(t, b, api.OK, 1, 9, -topHeight, api.Sum{4})
	isProved(t, b, api.OK, 2, 9, topHeight, api.Sum{4})
	isSettled(t, b, 60, api.OK, 1, 9, topHeight)
	isSettled(t, b, 0, api.ErrEarly, 2, 9, -topHeight)
}

func Test10_3SettleOfNoProof(t *testing.T) {
	b := locked(t)
	isHeld(t, b, api.OK, 1, channel(9, 60))
	isHeld(t, b, api.OK, 1, channel(8, 30))
	isHeld(t, b, api.OK, 2, channel(9, 50))
	isProved(t, b, api.OK, 1, 8, 0, api.Sum{4})
	for _, height := range []int{-50, 0, 2, 3, 50, topHeight} {
		isSettled(t, b, 0, api.ErrNone, 1, 9, height)
		isSettled(t, b, 0, api.ErrNone, 2, 9, height)
		isSettled(t, b, 0, api.ErrNone, 9, 1, height)
		isSettled(t, b, 0, api.ErrNone, 2, 8, height)
		isSettled(t, b, 0, api.ErrNone, 3, 8, height)
	}
	for _, n := range bounds() {
		isSettled(t, b, 0, api.ErrNone, 1, n, 50)
		if n != 1 {
			isSettled(t, b, 0, api.ErrNone, n, 8, 50)
		}
	}
}

func Test10_3SettleLeavesWhatWasAsked(t *testing.T) {
	b := locked(t)
	isHeld(t, b, api.OK, 1, channel(9, 60))
	isAsked(t, b, api.OK, 1, 40, 5)
	isProved(t, b, api.OK, 1, 9, 6, api.Sum{4})
	isSettled(t, b, 60, api.OK, 1, 9, 9)
	isTower(t, b, 1, bond.Tower{Root: root(1), Locked: 40, Asked: 40, At: 5}, 0, 0)
	isTaken(t, b, 0, api.ErrEarly, 1, 16)
	isTaken(t, b, 40, api.OK, 1, 17)
	isTower(t, b, 1, bond.Tower{Root: root(1)}, 0, 0)
	areTowers(t, b, 1, 2)
}

func Test10_3TakeLeavesWhatIsProved(t *testing.T) {
	b := locked(t)
	isHeld(t, b, api.OK, 1, channel(9, 60))
	isAsked(t, b, api.OK, 1, 40, 5)
	isProved(t, b, api.OK, 1, 9, 16, api.Sum{4})
	isTaken(t, b, 40, api.OK, 1, 17)
	isHold(t, b, 1, 9, bond.Hold{Channel: channel(9, 60), Amount: 60, Proved: true, At: 16, Commit: api.Sum{4}})
	isSettled(t, b, 60, api.OK, 1, 9, 19)
	isTower(t, b, 1, bond.Tower{Root: root(1)}, 0, 0)
}

func Test10_3WhatWasSettledMayBeHeldAgain(t *testing.T) {
	b := locked(t)
	isHeld(t, b, api.OK, 1, channel(9, 60))
	isProved(t, b, api.OK, 1, 9, 0, api.Sum{4})
	isSettled(t, b, 60, api.OK, 1, 9, 3)
	isHeld(t, b, api.ErrBond, 1, channel(9, 41))
	isHeld(t, b, api.OK, 1, channel(9, 40))
	isHold(t, b, 1, 9, bond.Hold{Channel: channel(9, 40), Amount: 40})
	isSettled(t, b, 0, api.ErrNone, 1, 9, 50)
	isProved(t, b, api.OK, 1, 9, 50, api.Sum{5})
	isSettled(t, b, 40, api.OK, 1, 9, 53)
	isTotal(t, b, 50)
}

func Test10_4TowersAreAnsweredAnew(t *testing.T) {
	b := locked(t)
	isLocked(t, b, api.OK, 0, 1, root(0))
	l := b.Towers()
	l[0], l[1], l[2] = 7, 8, 9
	areTowers(t, b, 0, 1, 2)
}

func Test10_4CloneGoesItsOwnWay(t *testing.T) {
	b := locked(t)
	isHeld(t, b, api.OK, 1, channel(9, 60))
	isHeld(t, b, api.OK, 1, channel(8, 30))
	isAsked(t, b, api.OK, 2, 50, 7)
	isProved(t, b, api.OK, 1, 8, 7, api.Sum{4})
	before := tell(t, b)
	for _, act := range []func(*bond.Board) api.Errno{
		func(b *bond.Board) api.Errno { return b.Lock(1, 5, root(1)) },
		func(b *bond.Board) api.Errno { return b.Lock(3, 5, root(3)) },
		func(b *bond.Board) api.Errno { return b.Hold(1, channel(7, 10)) },
		func(b *bond.Board) api.Errno { return b.Let(1, 9) },
		func(b *bond.Board) api.Errno { return b.Ask(1, 1, 1) },
		func(b *bond.Board) api.Errno { _, e := b.Take(2, 50); return e },
		func(b *bond.Board) api.Errno { return b.Prove(1, 9, 5, api.Sum{6}) },
		func(b *bond.Board) api.Errno { _, e := b.Settle(1, 8, 50); return e },
	} {
		c := b.Clone()
		d := c.Clone()
		isAlike(t, c, before)
		if e := act(c); e != api.OK {
			t.Fatalf("an act on a clone has %v", e)
		}
		if reflect.DeepEqual(tell(t, c), before) {
			t.Error("an act on a clone changed nothing")
		}
		isAlike(t, b, before)
		isAlike(t, d, before)
		after := tell(t, c)
		if e := act(d); e != api.OK {
			t.Fatalf("an act on a clone of a clone has %v", e)
		}
		isAlike(t, d, after)
	}
}

func Test10_4WhatIsDoneBehindIsNotInTheClone(t *testing.T) {
	b := locked(t)
	isHeld(t, b, api.OK, 1, channel(9, 60))
	before := tell(t, b)
	c := b.Clone()
	isLet(t, b, api.OK, 1, 9)
	isLocked(t, b, api.OK, 1, 5, root(1))
	isLocked(t, b, api.OK, 4, 5, root(4))
	isHeld(t, b, api.OK, 2, channel(9, 50))
	isAlike(t, c, before)
}

func Test10_4CloneOfABoardWithoutTowers(t *testing.T) {
	b := bond.New()
	c := b.Clone()
	if c == b || c == nil {
		t.Fatal("a clone is the board itself")
	}
	isLocked(t, c, api.OK, 1, 5, root(1))
	isHeld(t, c, api.OK, 1, channel(9, 5))
	isAlike(t, b, nothing())
}

func Test10_4OfNoBoard(t *testing.T) {
	for _, b := range []*bond.Board{nil, {}} {
		isLocked(t, b, api.ErrArg, 1, 5, root(1))
		isHeld(t, b, api.ErrArg, 1, channel(9, 5))
		isLet(t, b, api.ErrNone, 1, 9)
		isAsked(t, b, api.ErrTower, 1, 5, 0)
		isAsked(t, b, api.ErrTower, 1, 0, 0)
		isTaken(t, b, 0, api.ErrTower, 1, 50)
		isProved(t, b, api.ErrNone, 1, 9, 0, api.Sum{4})
		isSettled(t, b, 0, api.ErrNone, 1, 9, 50)
		isAlike(t, b, nothing())
		if c := b.Clone(); c != b {
			t.Errorf("the clone of %v is %v", b, c)
		}
	}
}
