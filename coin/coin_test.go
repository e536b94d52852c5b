package coin_test

import (
	"math"
	"math/big"
	"slices"
	"testing"

	"bartizan/api"
	"bartizan/coin"
)

// top is the greatest amount that may be, written out.
const top = 1125899906842624

// rights are amounts that may be, with the edges.
func rights() []int64 {
	return []int64{0, 1, 2, 999, 1000, 1001, 65535, 65536, 65537, 1 << 32, top/2 - 1, top / 2, top/2 + 1, top - 1, top}
}

// wrongs are amounts that may not be.
func wrongs() []int64 {
	return []int64{-1, -2, -1000, -top, -top - 1, math.MinInt32, math.MinInt64, math.MinInt64 + 1, top + 1, top + 2, 2 * top, 1 << 62, math.MaxInt64}
}

func isAdded(t *testing.T, want int64, wantE api.Errno, l ...int64) {
	t.Helper()
	if got, e := coin.Add(l...); got != want || e != wantE {
		t.Errorf("%v together are %d, %v, want %d, %v", l, got, e, want, wantE)
	}
}

func isLess(t *testing.T, want int64, wantE api.Errno, n int64, l ...int64) {
	t.Helper()
	if got, e := coin.Sub(n, l...); got != want || e != wantE {
		t.Errorf("%d without %v is %d, %v, want %d, %v", n, l, got, e, want, wantE)
	}
}

func Test6_1Right(t *testing.T) {
	for _, n := range rights() {
		if !coin.Right(n) {
			t.Errorf("%d may not be", n)
		}
	}
	for _, n := range wrongs() {
		if coin.Right(n) {
			t.Errorf("%d may be", n)
		}
	}
}

func Test6_1AddIsAllTogether(t *testing.T) {
	isAdded(t, 0, api.OK)
	isAdded(t, 0, api.OK, []int64{}...)
	isAdded(t, 0, api.OK, 0, 0, 0)
	isAdded(t, 6, api.OK, 1, 2, 3)
	isAdded(t, top, api.OK, top-1, 1)
	isAdded(t, top, api.OK, 0, top, 0, 0)
	isAdded(t, top, api.OK, top/2, top/2)
	for _, n := range rights() {
		isAdded(t, n, api.OK, n)
		isAdded(t, top, api.OK, n, top-n)
	}
}

func Test6_1AddOfMany(t *testing.T) {
	l := slices.Repeat([]int64{1 << 30}, 1<<20)
	isAdded(t, top, api.OK, l...)
	if got, e := coin.Add(append(l, 1)...); got != 0 || e != api.ErrOver {
		t.Errorf("more than may be is %d, %v", got, e)
	}
	if got, e := coin.Add(slices.Repeat([]int64{top}, 1<<15)...); got != 0 || e != api.ErrOver {
		t.Errorf("what would come round to nothing is %d, %v", got, e)
	}
}

func Test6_1AddOfWhatMayNotBe(t *testing.T) {
	for _, n := range wrongs() {
		isAdded(t, 0, api.ErrRange, n)
		isAdded(t, 0, api.ErrRange, 1, n)
		isAdded(t, 0, api.ErrRange, n, 1)
		isAdded(t, 0, api.ErrRange, n, -n)
		isAdded(t, 0, api.ErrRange, top, n)
		isAdded(t, 0, api.ErrRange, 5, 7, n, 9)
	}
}

func Test6_1AddOfMoreThanMayBe(t *testing.T) {
	isAdded(t, 0, api.ErrOver, top, 1)
	isAdded(t, 0, api.ErrOver, 1, top)
	isAdded(t, 0, api.ErrOver, top, top)
	isAdded(t, 0, api.ErrOver, top/2, top/2, 1)
	isAdded(t, 0, api.ErrOver, top/2, top/2, 0, 0, 1, 0)
}

func Test6_1AddGoesOneByOne(t *testing.T) {
	for _, n := range wrongs() {
		isAdded(t, 0, api.ErrOver, top, 1, n)
		isAdded(t, 0, api.ErrRange, top, n, 1)
		isAdded(t, 0, api.ErrRange, n, top, 1)
	}
}

func Test6_1SubIsWhatIsLeft(t *testing.T) {
	isLess(t, 4, api.OK, 10, 1, 2, 3)
	isLess(t, 0, api.OK, 10, 1, 9)
	isLess(t, 0, api.OK, 0, 0, 0)
	for _, n := range rights() {
		isLess(t, n, api.OK, n)
		isLess(t, n, api.OK, n, 0)
		isLess(t, 0, api.OK, n, n)
		isLess(t, top-n, api.OK, top, n)
	}
}

func Test6_1SubOfMoreThanThereIs(t *testing.T) {
	isLess(t, 0, api.ErrAmount, 0, 1)
	isLess(t, 0, api.ErrAmount, 10, 11)
	isLess(t, 0, api.ErrAmount, 10, 10, 1)
	isLess(t, 0, api.ErrAmount, 10, 5, 5, 0, 1)
	isLess(t, 0, api.ErrAmount, top-1, top)
	isLess(t, 0, api.ErrAmount, 0, top)
}

func Test6_1SubNamesTheErrorsInOrder(t *testing.T) {
	for _, n := range wrongs() {
		isLess(t, 0, api.ErrRange, n)
		isLess(t, 0, api.ErrRange, n, 0)
		isLess(t, 0, api.ErrRange, n, n)
		isLess(t, 0, api.ErrRange, n, top, 1)
		isLess(t, 0, api.ErrRange, 10, n)
		isLess(t, 0, api.ErrRange, 10, 11, n)
		isLess(t, 0, api.ErrRange, 10, n, top, 1)
		isLess(t, 0, api.ErrOver, 10, top, 1, n)
	}
	isLess(t, 0, api.ErrOver, 0, top, 1)
	isLess(t, 0, api.ErrOver, top, top, 1)
}

func Test6_1ListsAreNotChanged(t *testing.T) {
	l := []int64{3, 1, 2, top, -1}
	coin.Add(l...)
	coin.Add(l[:3]...)
	coin.Sub(10, l[:3]...)
	coin.Sub(2, l...)
	if !slices.Equal(l, []int64{3, 1, 2, top, -1}) {
		t.Errorf("a list that was handed in is now %v", l)
	}
}

func isSplit(t *testing.T, n int64, parts int, want ...int64) {
	t.Helper()
	if got := coin.Split(n, parts); !slices.Equal(got, want) {
		t.Errorf("%d in %d parts is %v, want %v", n, parts, got, want)
	}
}

func Test6_2Split(t *testing.T) {
	isSplit(t, 10, 3, 4, 3, 3)
	isSplit(t, 11, 3, 4, 4, 3)
	isSplit(t, 12, 3, 4, 4, 4)
	isSplit(t, 0, 1, 0)
	isSplit(t, 0, 4, 0, 0, 0, 0)
	isSplit(t, 2, 5, 1, 1, 0, 0, 0)
	isSplit(t, 7, 1, 7)
	isSplit(t, top, 1, top)
	isSplit(t, top, 2, top/2, top/2)
	isSplit(t, top-1, 2, top/2, top/2-1)
	isSplit(t, top, 3, 375299968947542, 375299968947541, 375299968947541)
}

// isEven holds all that is promised of an amount in parts.
func isEven(t *testing.T, n int64, parts int) {
	t.Helper()
	l := coin.Split(n, parts)
	if len(l) != parts {
		t.Fatalf("%d in %d parts has %d", n, parts, len(l))
	}
	var all int64
	for i, part := range l {
		all += part
		if i > 0 && part > l[i-1] {
			t.Errorf("%d in %d parts: part %d is greater than the one ahead", n, parts, i)
		}
	}
	if all != n || l[0]-l[parts-1] > 1 || l[parts-1] < 0 {
		t.Errorf("%d in %d parts: together %d, from %d to %d", n, parts, all, l[0], l[parts-1])
	}
}

func Test6_2SplitIsAllAndEven(t *testing.T) {
	for _, n := range rights() {
		for _, parts := range []int{1, 2, 3, 7, 1000, 65535, 65536} {
			isEven(t, n, parts)
		}
	}
	for n := range int64(60) {
		for parts := range 60 {
			isEven(t, n, parts+1)
		}
	}
}

func Test6_2SplitOfWhatMayNotBe(t *testing.T) {
	for _, n := range wrongs() {
		isSplit(t, n, 1)
		isSplit(t, n, 3)
		isSplit(t, n, 0)
	}
	for _, parts := range []int{0, -1, -3, math.MinInt, 65537, 65538, 1 << 32, 1<<32 + 1, math.MaxInt} {
		isSplit(t, 0, parts)
		isSplit(t, 10, parts)
		isSplit(t, top, parts)
	}
}

func Test6_2SplitIsNewMemory(t *testing.T) {
	first := coin.Split(10, 3)
	clear(first)
	isSplit(t, 10, 3, 4, 3, 3)
	if !slices.Equal(first, []int64{0, 0, 0}) {
		t.Errorf("what was answered has changed: %v", first)
	}
}

func isPart(t *testing.T, n int64, of int, want int64) {
	t.Helper()
	if got := coin.Part(n, of); got != want {
		t.Errorf("%d thousandths of %d are %d, want %d", of, n, got, want)
	}
}

func Test6_2Part(t *testing.T) {
	isPart(t, 90, 100, 9)
	isPart(t, 100, 500, 50)
	isPart(t, 1, 999, 0)
	isPart(t, 1, 1000, 1)
	isPart(t, 999, 1, 0)
	isPart(t, 1000, 1, 1)
	isPart(t, 1999, 1, 1)
	isPart(t, 1001, 999, 999)
	isPart(t, 5, 333, 1)
	isPart(t, top, 1, 1125899906842)
	isPart(t, top, 999, 1124774006935781)
	isPart(t, top, 1000, top)
}

func Test6_2PartIsRoundedDownwards(t *testing.T) {
	for _, n := range rights() {
		for of := range 1001 {
			want := new(big.Int).Mul(big.NewInt(n), big.NewInt(int64(of)))
			want.Div(want, big.NewInt(1000))
			isPart(t, n, of, want.Int64())
		}
	}
}

func Test6_2PartIsAllAtMost(t *testing.T) {
	for _, n := range rights() {
		for _, of := range []int{1001, 2000, 1 << 20, 1 << 32, 1 << 62, math.MaxInt - 1, math.MaxInt} {
			isPart(t, n, of, n)
		}
	}
}

func Test6_2PartOfWhatMayNotBe(t *testing.T) {
	for _, n := range wrongs() {
		for _, of := range []int{-1, 0, 1, 500, 1000, 1001, math.MinInt, math.MaxInt} {
			isPart(t, n, of, 0)
		}
	}
	for _, n := range rights() {
		for _, of := range []int{-1, -2, -1000, -1001, math.MinInt, math.MinInt + 1} {
			isPart(t, n, of, 0)
		}
	}
}
