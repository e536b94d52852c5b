package coin_test

import (
	"maps"
	"math"
	"testing"

	"bartizan/api"
	"bartizan/coin"
)

// keys are the keys that the tests ask for, with the edges.
func keys() []int {
	return []int{0, 1, 2, 3, -1, 255, 256, math.MinInt, math.MaxInt}
}

// filled is a purse that has amounts.
func filled(t *testing.T, has map[int]int64) *coin.Purse {
	t.Helper()
	var p coin.Purse
	for key, n := range has {
		isPut(t, &p, api.OK, key, n)
	}
	isIn(t, &p, has)
	return &p
}

func isPut(t *testing.T, p *coin.Purse, want api.Errno, key int, n int64) {
	t.Helper()
	if e := p.Put(key, n); e != want {
		t.Errorf("%d to %d is put with %v, want %v", n, key, e, want)
	}
}

func isPaid(t *testing.T, p *coin.Purse, want api.Errno, from, to int, n int64) {
	t.Helper()
	if e := p.Pay(from, to, n); e != want {
		t.Errorf("%d from %d to %d is paid with %v, want %v", n, from, to, e, want)
	}
}

// isIn holds what each key has: what stands in a map, and nothing where nothing stands.
func isIn(t *testing.T, p *coin.Purse, want map[int]int64) {
	t.Helper()
	for _, key := range keys() {
		if got := p.Has(key); got != want[key] {
			t.Errorf("%d has %d, want %d", key, got, want[key])
		}
	}
	for key, n := range want {
		if got := p.Has(key); got != n {
			t.Errorf("%d has %d, want %d", key, got, n)
		}
	}
}

func Test6_3ZeroPurseHasNothing(t *testing.T) {
	var p coin.Purse
	isIn(t, &p, nil)
	isPaid(t, &p, api.ErrAmount, 1, 2, 1)
	isPaid(t, &p, api.ErrAmount, 1, 1, 1)
	isPaid(t, &p, api.OK, 1, 2, 0)
	isPaid(t, &p, api.OK, 1, 1, 0)
	isPut(t, &p, api.OK, 1, 0)
	isIn(t, &p, nil)
	isPut(t, &p, api.OK, 2, 5)
	isIn(t, &p, map[int]int64{2: 5})
}

func Test6_3PutAddsToWhatTheKeyHas(t *testing.T) {
	var p coin.Purse
	for i, key := range keys() {
		isPut(t, &p, api.OK, key, int64(i))
		isPut(t, &p, api.OK, key, 100)
		isPut(t, &p, api.OK, key, 0)
	}
	for i, key := range keys() {
		if got := p.Has(key); got != int64(i)+100 {
			t.Errorf("%d has %d, want %d", key, got, i+100)
		}
	}
}

func Test6_3PutOfWhatMayNotBe(t *testing.T) {
	has := map[int]int64{1: 5, 2: top}
	p := filled(t, has)
	for _, n := range wrongs() {
		for _, key := range keys() {
			isPut(t, p, api.ErrRange, key, n)
		}
	}
	isPut(t, p, api.ErrOver, 1, top-4)
	isPut(t, p, api.ErrOver, 1, top)
	isPut(t, p, api.ErrOver, 2, 1)
	isPut(t, p, api.ErrOver, 2, top)
	isIn(t, p, has)
	isPut(t, p, api.OK, 1, top-5)
	isPut(t, p, api.OK, 2, 0)
	isPut(t, p, api.OK, 3, top)
	isIn(t, p, map[int]int64{1: top, 2: top, 3: top})
}

func Test6_3PayGoesFromOneToTheOther(t *testing.T) {
	p := filled(t, map[int]int64{1: 10, 2: 3})
	isPaid(t, p, api.OK, 1, 2, 4)
	isIn(t, p, map[int]int64{1: 6, 2: 7})
	isPaid(t, p, api.OK, 1, 3, 6)
	isIn(t, p, map[int]int64{2: 7, 3: 6})
	isPaid(t, p, api.ErrAmount, 1, 2, 1)
	isPaid(t, p, api.OK, 2, 1, 0)
	isPaid(t, p, api.OK, 2, math.MinInt, 7)
	isPaid(t, p, api.OK, math.MinInt, math.MaxInt, 2)
	isIn(t, p, map[int]int64{3: 6, math.MinInt: 5, math.MaxInt: 2})
}

func Test6_3PayOfAll(t *testing.T) {
	p := filled(t, map[int]int64{1: top, 2: 1})
	isPaid(t, p, api.OK, 1, 3, top)
	isIn(t, p, map[int]int64{2: 1, 3: top})
	isPaid(t, p, api.OK, 3, 2, top-1)
	isIn(t, p, map[int]int64{2: top, 3: 1})
}

func Test6_3PayToOneself(t *testing.T) {
	has := map[int]int64{1: 10, 2: top}
	p := filled(t, has)
	isPaid(t, p, api.OK, 1, 1, 0)
	isPaid(t, p, api.OK, 1, 1, 4)
	isPaid(t, p, api.OK, 1, 1, 10)
	isPaid(t, p, api.ErrAmount, 1, 1, 11)
	isPaid(t, p, api.OK, 2, 2, 1)
	isPaid(t, p, api.OK, 2, 2, top)
	isPaid(t, p, api.OK, 3, 3, 0)
	isPaid(t, p, api.ErrAmount, 3, 3, 1)
	for _, n := range wrongs() {
		isPaid(t, p, api.ErrRange, 1, 1, n)
	}
	isIn(t, p, has)
}

func Test6_3PayWithAnErrorChangesNothing(t *testing.T) {
	has := map[int]int64{1: 10, 2: top, 3: top - 5}
	p := filled(t, has)
	for _, n := range wrongs() {
		for _, to := range keys() {
			isPaid(t, p, api.ErrRange, 1, to, n)
			isPaid(t, p, api.ErrRange, 255, to, n)
		}
	}
	isPaid(t, p, api.ErrAmount, 1, 256, 11)
	isPaid(t, p, api.ErrAmount, 255, 256, 1)
	isPaid(t, p, api.ErrOver, 1, 2, 1)
	isPaid(t, p, api.ErrOver, 1, 3, 6)
	isPaid(t, p, api.ErrOver, 3, 2, top-5)
	isIn(t, p, has)
	isPaid(t, p, api.OK, 1, 3, 5)
	isIn(t, p, map[int]int64{1: 5, 2: top, 3: top})
}

func Test6_3PayNamesTheErrorsInOrder(t *testing.T) {
	p := filled(t, map[int]int64{1: 10, 2: top})
	isPaid(t, p, api.ErrAmount, 1, 2, 11)
	isPaid(t, p, api.ErrAmount, 1, 2, top)
	isPaid(t, p, api.ErrRange, 1, 2, top+1)
	isPaid(t, p, api.ErrRange, 1, 2, -1)
	isPaid(t, p, api.OK, 1, 2, 0)
	isIn(t, p, map[int]int64{1: 10, 2: top})
}

func Test6_3NilPurse(t *testing.T) {
	var p *coin.Purse
	for _, n := range append(rights(), wrongs()...) {
		isPut(t, p, api.ErrArg, 1, n)
		isPaid(t, p, api.ErrArg, 1, 2, n)
		isPaid(t, p, api.ErrArg, 1, 1, n)
	}
	isIn(t, p, nil)
}

func Test6_3PursesAreOnesOwn(t *testing.T) {
	var p, q coin.Purse
	isPut(t, &p, api.OK, 1, 5)
	isPut(t, &q, api.OK, 2, 7)
	isPaid(t, &p, api.OK, 1, 2, 2)
	isIn(t, &p, map[int]int64{1: 3, 2: 2})
	isIn(t, &q, map[int]int64{2: 7})
}

// together is what all keys have.
func together(has map[int]int64) int64 {
	var all int64
	for n := range maps.Values(has) {
		all += n
	}
	return all
}

// told is what a purse tells of all keys that the tests ask for.
func told(p *coin.Purse) map[int]int64 {
	has := map[int]int64{}
	for _, key := range keys() {
		has[key] = p.Has(key)
	}
	return has
}

func Test6_4PayLeavesAllTogether(t *testing.T) {
	p := filled(t, map[int]int64{0: 7, 1: top - 3, 2: 2, -1: 1 << 40, math.MaxInt: 1})
	amounts := append(append(rights(), wrongs()...), 3, 4, 5, 6, 7, 8)
	all, step := together(told(p)), 0
	for round := range 4 {
		for _, from := range keys() {
			for _, to := range keys() {
				step++
				n := amounts[(step*7+round)%len(amounts)]
				isMoved(t, p, from, to, n)
				if got := together(told(p)); got != all {
					t.Fatalf("behind %d from %d to %d there is %d, want %d", n, from, to, got, all)
				}
			}
		}
	}
}

// isMoved pays, and holds what all keys have then against what they had.
func isMoved(t *testing.T, p *coin.Purse, from, to int, n int64) {
	t.Helper()
	want := told(p)
	e := payError(want, from, to, n)
	if e == api.OK {
		want[from] -= n
		want[to] += n
	}
	isPaid(t, p, e, from, to, n)
	isIn(t, p, want)
}

// payError is the error that paying must answer, of what keys have.
func payError(has map[int]int64, from, to int, n int64) api.Errno {
	switch {
	case n < 0 || n > top:
		return api.ErrRange
	case n > has[from]:
		return api.ErrAmount
	case from != to && has[to]+n > top:
		return api.ErrOver
	}
	return api.OK
}
