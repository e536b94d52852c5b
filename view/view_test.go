package view_test

import (
	"bytes"
	"math"
	"math/rand"
	"reflect"
	"slices"
	"sort"
	"testing"

	"bartizan/api"
	"bartizan/lock"
	"bartizan/view"
)

// The greatest ones that may be, written out.
const (
	topAmount = 1125899906842624
	topHeight = 1073741824
	topKey    = 255
	topList   = 16
)

// at is the place n of a transaction whose sum begins with some bytes.
func at(n int, front ...byte) api.Ref {
	r := api.Ref{At: n}
	copy(r.Tx[:], front)
	return r
}

// rising is n keys that rise, from a first one on.
func rising(first, n int) []int {
	l := make([]int, n)
	for i := range l {
		l[i] = first + i
	}
	return l
}

// greatest is an out of which all is the most that may be.
func greatest() api.Out {
	var hash api.Sum
	for i := range hash {
		hash[i] = 0xff
	}
	w := api.Way{Keys: rising(topKey-topList+1, topList), Hash: hash, After: topHeight, Wait: topHeight}
	return api.Out{Amount: topAmount, Ways: slices.Repeat([]api.Way{w}, topList)}
}

// rightOuts are outs that may be, with the edges.
func rightOuts() []api.Out {
	return []api.Out{
		{Ways: []api.Way{{}}},
		{Amount: 1, Ways: []api.Way{{}, {}}},
		{Amount: topAmount, Ways: []api.Way{{Keys: []int{0}}}},
		lock.To(0, 0),
		lock.To(topKey, topAmount),
		{Amount: 9, Ways: []api.Way{{Keys: []int{1, 2}}, {Keys: []int{3}, Hash: api.Sum{1}, After: 4, Wait: 5}}},
		greatest(),
	}
}

// wrongOuts are outs that may not be.
func wrongOuts() []api.Out {
	l := []api.Out{{}, {Amount: 5}, {Amount: 5, Ways: []api.Way{}}, {Amount: 5, Ways: make([]api.Way, topList+1)}}
	for _, n := range []int64{-1, -topAmount, math.MinInt64, topAmount + 1, math.MaxInt64} {
		l = append(l, lock.To(1, n))
	}
	for _, w := range []api.Way{
		{Keys: []int{-1}}, {Keys: []int{topKey + 1}}, {Keys: []int{2, 1}}, {Keys: []int{1, 1}},
		{Keys: rising(0, topList+1)},
		{After: -1}, {After: topHeight + 1}, {Wait: -1}, {Wait: topHeight + 1},
	} {
		l = append(l, api.Out{Amount: 5, Ways: []api.Way{w}}, api.Out{Amount: 5, Ways: []api.Way{{}, w}})
	}
	return l
}

// copied is a copy of an out, in memory of its own.
func copied(o api.Out) api.Out {
	o.Ways = slices.Clone(o.Ways)
	for i, w := range o.Ways {
		o.Ways[i].Keys = slices.Clone(w.Keys)
	}
	return o
}

// spoil writes over all that an out has in memory.
func spoil(o api.Out) {
	for i := range o.Ways {
		for j := range o.Ways[i].Keys {
			o.Ways[i].Keys[j] = 77
		}
		o.Ways[i] = api.Way{After: 77}
	}
}

func isPut(t *testing.T, v *view.View, want api.Errno, r api.Ref, o api.Out, height int) {
	t.Helper()
	if e := v.Put(r, o, height); e != want {
		t.Errorf("%v at %v and %d is put with %v, want %v", o, r, height, e, want)
	}
}

// isThere holds that there is a coin at a place, and what it is.
func isThere(t *testing.T, v *view.View, r api.Ref, o api.Out, height int) {
	t.Helper()
	c, ok := v.Get(r)
	if !ok || c.Height != height || !lock.Same(c.Out, o) {
		t.Errorf("at %v is %v, %v, want %v of %d", r, c, ok, o, height)
	}
}

// isMissing holds that there is no coin at a place.
func isMissing(t *testing.T, v *view.View, r api.Ref) {
	t.Helper()
	if c, ok := v.Get(r); ok || !reflect.DeepEqual(c, view.Coin{}) {
		t.Errorf("at %v is %v, %v", r, c, ok)
	}
}

func isLen(t *testing.T, v *view.View, want int) {
	t.Helper()
	if got := v.Len(); got != want {
		t.Errorf("there are %d, want %d", got, want)
	}
}

// isNotTaken holds that nothing can be taken at a place.
func isNotTaken(t *testing.T, v *view.View, r api.Ref) {
	t.Helper()
	if c, e := v.Take(r); e != api.ErrCoin || !reflect.DeepEqual(c, view.Coin{}) {
		t.Errorf("%v, %v is taken at %v", c, e, r)
	}
}

func isTaken(t *testing.T, v *view.View, r api.Ref, o api.Out, height int) {
	t.Helper()
	if c, e := v.Take(r); e != api.OK || c.Height != height || !lock.Same(c.Out, o) {
		t.Errorf("%v, %v is taken at %v, want %v of %d", c, e, r, o, height)
	}
}

func Test9_1NewHasNoCoins(t *testing.T) {
	v := view.New()
	isLen(t, v, 0)
	isMissing(t, v, api.Ref{})
	isNotTaken(t, v, api.Ref{})
	isPut(t, v, api.OK, api.Ref{}, lock.To(1, 2), 3)
	isLen(t, view.New(), 0)
	isLen(t, v, 1)
}

func Test9_1PutIsThere(t *testing.T) {
	v := view.New()
	for i, o := range rightOuts() {
		for j, height := range []int{0, 1, 500, topHeight - 1, topHeight} {
			r := at(j, byte(i))
			isMissing(t, v, r)
			isPut(t, v, api.OK, r, o, height)
			isThere(t, v, r, o, height)
			isLen(t, v, 5*i+j+1)
		}
	}
	for i, o := range rightOuts() {
		isThere(t, v, at(0, byte(i)), o, 0)
		isThere(t, v, at(4, byte(i)), o, topHeight)
	}
}

// places are places that are all unlike: of sums that are unlike in one byte alone, and of numbers that may and may not be a place.
func places() []api.Ref {
	l := []api.Ref{{}}
	for i := range 32 {
		for _, b := range []byte{1, 0x7f, 0x80, 0xff} {
			var r api.Ref
			r.Tx[i] = b
			l = append(l, r)
		}
	}
	for _, n := range []int{1, 2, 10, 15, 16, 255, 256, 1 << 32, math.MaxInt, -1, -2, -256, math.MinInt} {
		l = append(l, at(n), at(n, 1), at(n, 0xff))
	}
	return l
}

func Test9_1EachPlaceHasItsOwn(t *testing.T) {
	v := view.New()
	for i, r := range places() {
		isPut(t, v, api.OK, r, lock.To(1, int64(i)), i)
	}
	isLen(t, v, len(places()))
	for i, r := range places() {
		isThere(t, v, r, lock.To(1, int64(i)), i)
	}
	for i, r := range places() {
		isTaken(t, v, r, lock.To(1, int64(i)), i)
		isMissing(t, v, r)
		isLen(t, v, len(places())-1-i)
	}
}

func Test9_1PutOfWhatMayNotBe(t *testing.T) {
	v := view.New()
	isPut(t, v, api.OK, at(1), lock.To(1, 2), 3)
	for i, o := range wrongOuts() {
		isPut(t, v, api.ErrArg, at(2), o, 0)
		isPut(t, v, api.ErrArg, at(1), o, 3)
		isPut(t, v, api.ErrArg, at(2), o, -1)
		if t.Failed() {
			t.Fatal(i)
		}
	}
	for _, height := range []int{-1, -2, -topHeight, math.MinInt, topHeight + 1, 1 << 32, math.MaxInt} {
		for _, o := range rightOuts() {
			isPut(t, v, api.ErrArg, at(2), o, height)
			isPut(t, v, api.ErrArg, at(1), o, height)
		}
	}
	isLen(t, v, 1)
	isMissing(t, v, at(2))
	isThere(t, v, at(1), lock.To(1, 2), 3)
}

func Test9_1PutTwice(t *testing.T) {
	v := view.New()
	isPut(t, v, api.OK, at(1), lock.To(1, 2), 3)
	isPut(t, v, api.ErrTwice, at(1), lock.To(1, 2), 3)
	for _, o := range rightOuts() {
		isPut(t, v, api.ErrTwice, at(1), o, 0)
		isPut(t, v, api.ErrTwice, at(1), o, topHeight)
	}
	isLen(t, v, 1)
	isThere(t, v, at(1), lock.To(1, 2), 3)
	isPut(t, v, api.OK, at(2), lock.To(4, 5), 6)
	isThere(t, v, at(1), lock.To(1, 2), 3)
}

func Test9_1CoinOfNothingIsOne(t *testing.T) {
	v := view.New()
	o := api.Out{Ways: []api.Way{{}}}
	isPut(t, v, api.OK, at(0), o, 0)
	isThere(t, v, at(0), o, 0)
	isPut(t, v, api.ErrTwice, at(0), o, 0)
	isLen(t, v, 1)
	isTaken(t, v, at(0), o, 0)
	isLen(t, v, 0)
}

func Test9_1TakenIsThereNoMore(t *testing.T) {
	v := view.New()
	isPut(t, v, api.OK, at(1), lock.To(1, 2), 3)
	isPut(t, v, api.OK, at(2), greatest(), topHeight)
	isNotTaken(t, v, at(3))
	isNotTaken(t, v, at(1, 1))
	isLen(t, v, 2)
	isTaken(t, v, at(1), lock.To(1, 2), 3)
	isMissing(t, v, at(1))
	isNotTaken(t, v, at(1))
	isNotTaken(t, v, at(1))
	isLen(t, v, 1)
	isThere(t, v, at(2), greatest(), topHeight)
	isPut(t, v, api.OK, at(1), lock.To(7, 8), 9)
	isThere(t, v, at(1), lock.To(7, 8), 9)
	isTaken(t, v, at(1), lock.To(7, 8), 9)
	isTaken(t, v, at(2), greatest(), topHeight)
	isLen(t, v, 0)
}

func Test9_1WhatIsHandedInIsNotKept(t *testing.T) {
	v := view.New()
	for i, o := range rightOuts() {
		before := copied(o)
		isPut(t, v, api.OK, at(i), o, i)
		if !reflect.DeepEqual(o, before) {
			t.Errorf("%v was handed in, and is now %v", before, o)
		}
		spoil(o)
		isThere(t, v, at(i), before, i)
		c, _ := v.Get(at(i))
		spoil(c.Out)
		isThere(t, v, at(i), before, i)
		for _, row := range v.All() {
			spoil(row.Out)
		}
		isThere(t, v, at(i), before, i)
		isTaken(t, v, at(i), before, i)
	}
}

// isListed holds the rows of a view.
func isListed(t *testing.T, v *view.View, want ...view.Row) {
	t.Helper()
	got := v.All()
	if len(got) != len(want) {
		t.Fatalf("there are %d rows, want %d", len(got), len(want))
	}
	for i, row := range got {
		if row.Ref != want[i].Ref || row.Height != want[i].Height || !lock.Same(row.Out, want[i].Out) {
			t.Errorf("row %d is %v, want %v", i, row, want[i])
		}
	}
}

// row is a row of an out.
func row(r api.Ref, o api.Out, height int) view.Row {
	return view.Row{Ref: r, Coin: view.Coin{Out: o, Height: height}}
}

// filled is a view with coins.
func filled(t *testing.T, l ...view.Row) *view.View {
	t.Helper()
	v := view.New()
	for _, r := range l {
		isPut(t, v, api.OK, r.Ref, r.Out, r.Height)
	}
	return v
}

func Test9_2AllOfNone(t *testing.T) {
	v := view.New()
	isListed(t, v)
	isPut(t, v, api.OK, at(1), lock.To(1, 2), 3)
	isTaken(t, v, at(1), lock.To(1, 2), 3)
	isListed(t, v)
}

func Test9_2AllGoesBySumsThenByPlaces(t *testing.T) {
	want := []view.Row{
		row(at(math.MinInt), lock.To(9, 1), 13),
		row(at(-1), lock.To(8, 2), 12),
		row(at(0), greatest(), 11),
		row(at(2), lock.To(6, 4), 10),
		row(at(10), lock.To(5, 5), 9),
		row(at(math.MaxInt), lock.To(4, 6), 8),
		row(at(9, 0, 1), lock.To(3, 7), 7),
		row(at(8, 0, 0xff), lock.To(2, 8), 6),
		row(at(7, 1), lock.To(1, 9), 5),
		row(at(6, 1, 0, 1), lock.To(0, 10), 4),
		row(at(0, 0x7f), lock.To(1, 11), 3),
		row(at(1, 0x7f), lock.To(2, 12), 2),
		row(at(1, 0x80), lock.To(3, 13), 1),
		row(at(0, 0xff), lock.To(4, 14), 0),
	}
	isListed(t, filled(t, want...), want...)
	backwards := slices.Clone(want)
	slices.Reverse(backwards)
	isListed(t, filled(t, backwards...), want...)
	chance := rand.New(rand.NewSource(9))
	for range 50 {
		mixed := slices.Clone(want)
		chance.Shuffle(len(mixed), func(i, j int) { mixed[i], mixed[j] = mixed[j], mixed[i] })
		isListed(t, filled(t, mixed...), want...)
	}
}

func Test9_2AllGoesByEachByte(t *testing.T) {
	var want []view.Row
	for i, r := range places() {
		want = append(want, row(r, lock.To(1, int64(i)), i))
	}
	v := filled(t, want...)
	sort.Slice(want, func(i, j int) bool {
		a, b := want[i].Ref, want[j].Ref
		if a.Tx == b.Tx {
			return a.At < b.At
		}
		return bytes.Compare(a.Tx[:], b.Tx[:]) < 0
	})
	isListed(t, v, want...)
	for len(want) > 0 {
		isTaken(t, v, want[0].Ref, want[0].Out, want[0].Height)
		want = want[1:]
		isListed(t, v, want...)
	}
}

func isTotal(t *testing.T, v *view.View, want int64, wantE api.Errno) {
	t.Helper()
	if n, e := v.Total(); n != want || e != wantE {
		t.Errorf("all together are %d, %v, want %d, %v", n, e, want, wantE)
	}
}

func Test9_2Total(t *testing.T) {
	v := view.New()
	isTotal(t, v, 0, api.OK)
	isPut(t, v, api.OK, at(1), lock.To(1, 5), 0)
	isPut(t, v, api.OK, at(2), lock.To(1, 0), 0)
	isPut(t, v, api.OK, at(3), api.Out{Amount: 7, Ways: []api.Way{{Hash: api.Sum{1}}, {Keys: []int{2, 3}}}}, 9)
	isTotal(t, v, 12, api.OK)
	isPut(t, v, api.OK, at(4), lock.To(2, topAmount-12), 0)
	isTotal(t, v, topAmount, api.OK)
	isPut(t, v, api.OK, at(5), lock.To(2, 0), 0)
	isTotal(t, v, topAmount, api.OK)
	isPut(t, v, api.OK, at(6), lock.To(2, 1), 0)
	for range 20 {
		isTotal(t, v, 0, api.ErrOver)
	}
	isLen(t, v, 6)
	isTaken(t, v, at(1), lock.To(1, 5), 0)
	isTotal(t, v, topAmount-4, api.OK)
	for i := range 40 {
		isPut(t, v, api.OK, at(i, 1), lock.To(3, topAmount), 0)
	}
	isTotal(t, v, 0, api.ErrOver)
}

func isOf(t *testing.T, v *view.View, key int, want int64) {
	t.Helper()
	if n := v.Of(key); n != want {
		t.Errorf("of %d are %d, want %d", key, n, want)
	}
}

func Test9_2OfIsTheKeysAlone(t *testing.T) {
	own := api.Way{Keys: []int{7}}
	v := filled(t,
		row(at(0), lock.To(7, 1), 0),
		row(at(1), lock.To(7, 20), topHeight),
		row(at(2), lock.To(8, 300), 0),
		row(at(3), lock.To(7, 0), 0),
		row(at(4), lock.To(0, 4000), 0),
		row(at(5), lock.To(topKey, 50000), 0),
		row(at(6), api.Out{Amount: 600000, Ways: []api.Way{own, own}}, 0),
		row(at(7), api.Out{Amount: 600000, Ways: []api.Way{own, {Keys: []int{8}}}}, 0),
		row(at(8), api.Out{Amount: 600000, Ways: []api.Way{{Keys: []int{7, 8}}}}, 0),
		row(at(9), api.Out{Amount: 600000, Ways: []api.Way{{}}}, 0),
		row(at(10), api.Out{Amount: 600000, Ways: []api.Way{{Keys: []int{7}, Hash: api.Sum{1}}}}, 0),
		row(at(11), api.Out{Amount: 600000, Ways: []api.Way{{Keys: []int{7}, After: 1}}}, 0),
		row(at(12), api.Out{Amount: 600000, Ways: []api.Way{{Keys: []int{7}, Wait: 1}}}, 0),
	)
	isOf(t, v, 7, 21)
	isOf(t, v, 8, 300)
	isOf(t, v, 0, 4000)
	isOf(t, v, topKey, 50000)
	for _, key := range []int{1, 9, 254, -1, 256, 263, math.MinInt, math.MaxInt} {
		isOf(t, v, key, 0)
	}
	isTaken(t, v, at(1), lock.To(7, 20), topHeight)
	isOf(t, v, 7, 1)
	isTaken(t, v, at(0), lock.To(7, 1), 0)
	isOf(t, v, 7, 0)
	isOf(t, view.New(), 7, 0)
}

func Test9_2OfLeavesOutWhatWouldBeMoreThanMayBe(t *testing.T) {
	for range 20 {
		v := filled(t,
			row(at(3), lock.To(7, 2), 0),
			row(at(1), lock.To(7, 10), 0),
			row(at(0), lock.To(7, topAmount-5), 0),
			row(at(2), lock.To(7, 3), 0),
			row(at(4), lock.To(7, 1), 0),
			row(at(5), lock.To(7, 0), 0),
			row(at(0, 1), lock.To(8, topAmount), 0),
			row(at(0, 2), lock.To(7, topAmount), 0),
		)
		isOf(t, v, 7, topAmount)
		isOf(t, v, 8, topAmount)
		isTaken(t, v, at(2), lock.To(7, 3), 0)
		isOf(t, v, 7, topAmount-2)
		isTaken(t, v, at(0), lock.To(7, topAmount-5), 0)
		isOf(t, v, 7, 13)
		isTaken(t, v, at(1), lock.To(7, 10), 0)
		isTaken(t, v, at(3), lock.To(7, 2), 0)
		isTaken(t, v, at(4), lock.To(7, 1), 0)
		isOf(t, v, 7, topAmount)
	}
}

func Test9_2OfGoesInOrder(t *testing.T) {
	small, great := lock.To(7, 6), lock.To(7, topAmount-5)
	isOf(t, filled(t, row(at(0, 1), great, 0), row(at(9, 0), small, 0)), 7, 6)
	isOf(t, filled(t, row(at(9, 0), great, 0), row(at(0, 1), small, 0)), 7, topAmount-5)
	isOf(t, filled(t, row(at(2), great, 0), row(at(10), small, 0)), 7, topAmount-5)
	isOf(t, filled(t, row(at(-1), small, 0), row(at(0), great, 0)), 7, 6)
}

func Test9_2CloneGoesItsOwnWay(t *testing.T) {
	v := filled(t, row(at(0), lock.To(7, 1), 2), row(at(1), greatest(), 4))
	w := v.Clone()
	isListed(t, w, v.All()...)
	isTotal(t, w, 0, api.ErrOver)
	isTaken(t, w, at(1), greatest(), 4)
	isPut(t, w, api.OK, at(2), lock.To(7, 5), 6)
	isListed(t, w, row(at(0), lock.To(7, 1), 2), row(at(2), lock.To(7, 5), 6))
	isListed(t, v, row(at(0), lock.To(7, 1), 2), row(at(1), greatest(), 4))
	isTaken(t, v, at(0), lock.To(7, 1), 2)
	isPut(t, v, api.OK, at(2), lock.To(8, 9), 10)
	isListed(t, v, row(at(1), greatest(), 4), row(at(2), lock.To(8, 9), 10))
	isListed(t, w, row(at(0), lock.To(7, 1), 2), row(at(2), lock.To(7, 5), 6))
	isOf(t, w, 7, 6)
	isOf(t, v, 8, 9)
	isTotal(t, w, 6, api.OK)
}

func Test9_2CloneOfAViewWithoutCoins(t *testing.T) {
	v := view.New()
	w := v.Clone()
	if w == v || w == nil {
		t.Fatal("a clone is the view itself")
	}
	isPut(t, w, api.OK, at(1), lock.To(1, 2), 3)
	isLen(t, v, 0)
	isLen(t, w, 1)
	again := w.Clone().Clone()
	isTaken(t, w, at(1), lock.To(1, 2), 3)
	isThere(t, again, at(1), lock.To(1, 2), 3)
}

func Test9_2CloneSharesNoMemoryThatIsAnswered(t *testing.T) {
	v := filled(t, row(at(0), greatest(), 4), row(at(1), greatest(), 5))
	w := v.Clone()
	c, _ := v.Get(at(0))
	spoil(c.Out)
	d, _ := v.Take(at(1))
	spoil(d.Out)
	for _, r := range v.All() {
		spoil(r.Out)
	}
	isListed(t, w, row(at(0), greatest(), 4), row(at(1), greatest(), 5))
	for _, r := range w.All() {
		spoil(r.Out)
	}
	isListed(t, v, row(at(0), greatest(), 4))
}

func Test9_2RowsShareNoMemory(t *testing.T) {
	o := greatest()
	v := filled(t, row(at(0), o, 4), row(at(1), o, 5))
	l := v.All()
	spoil(l[0].Out)
	if !lock.Same(l[1].Out, greatest()) {
		t.Errorf("the second row is now %v", l[1])
	}
}

func Test9_2OfNoView(t *testing.T) {
	for _, v := range []*view.View{nil, {}} {
		isLen(t, v, 0)
		isPut(t, v, api.ErrArg, at(1), lock.To(1, 2), 3)
		isPut(t, v, api.ErrArg, at(1), api.Out{}, -1)
		isMissing(t, v, at(1))
		isNotTaken(t, v, at(1))
		isListed(t, v)
		isTotal(t, v, 0, api.OK)
		isOf(t, v, 1, 0)
		if w := v.Clone(); w != v {
			t.Errorf("the clone of %v is %v", v, w)
		}
		isLen(t, v, 0)
		isPut(t, v.Clone(), api.ErrArg, at(1), lock.To(1, 2), 3)
	}
}

// Test9_2HeldAgainstAModel plays puts and takes by a fixed row of numbers, and holds a view against a list.
func Test9_2HeldAgainstAModel(t *testing.T) {
	chance := rand.New(rand.NewSource(92))
	v, model := view.New(), []view.Row{}
	for range 3000 {
		r := at(chance.Intn(4), byte(chance.Intn(3)), byte(chance.Intn(3)))
		i := slices.IndexFunc(model, func(m view.Row) bool { return m.Ref == r })
		if chance.Intn(2) == 0 {
			o, height := lock.To(chance.Intn(3), int64(chance.Intn(100))), chance.Intn(50)
			if i >= 0 {
				isPut(t, v, api.ErrTwice, r, o, height)
				continue
			}
			isPut(t, v, api.OK, r, o, height)
			model = append(model, row(r, o, height))
			continue
		}
		if i < 0 {
			isNotTaken(t, v, r)
			continue
		}
		isTaken(t, v, r, model[i].Out, model[i].Height)
		model = slices.Delete(model, i, i+1)
		isAlike(t, v, model)
	}
}

// isAlike holds all that a view tells against a list of its rows.
func isAlike(t *testing.T, v *view.View, model []view.Row) {
	t.Helper()
	sorted := slices.Clone(model)
	sort.Slice(sorted, func(i, j int) bool {
		a, b := sorted[i].Ref, sorted[j].Ref
		if a.Tx == b.Tx {
			return a.At < b.At
		}
		return bytes.Compare(a.Tx[:], b.Tx[:]) < 0
	})
	isListed(t, v, sorted...)
	var all int64
	of := map[int]int64{}
	for _, r := range model {
		all += r.Amount
		of[r.Ways[0].Keys[0]] += r.Amount
	}
	isTotal(t, v, all, api.OK)
	for key := range 4 {
		isOf(t, v, key, of[key])
	}
	isLen(t, v, len(model))
}
