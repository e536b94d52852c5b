package lock_test

import (
	"bytes"
	"crypto/sha256"
	"encoding/binary"
	"encoding/hex"
	"math"
	"slices"
	"testing"

	"bartizan/api"
	"bartizan/lock"
)

// The greatest ones that may be, written out.
const (
	topAmount = 1125899906842624
	topHeight = 1073741824
	topKey    = 255
	topList   = 16
)

// hashOf is what a text is summed to under the tag 31, by the library's SHA-256.
func hashOf(pre []byte) api.Sum {
	b := binary.BigEndian.AppendUint32([]byte{31}, uint32(len(pre)))
	return sha256.Sum256(append(b, pre...))
}

// rising is n keys that rise, the last of which is last.
func rising(n, last int) []int {
	l := make([]int, n)
	for i := range l {
		l[i] = last - n + 1 + i
	}
	return l
}

// rightWays are ways that may be, with the edges.
func rightWays() []api.Way {
	var full api.Sum
	for i := range full {
		full[i] = 0xff
	}
	return []api.Way{
		{},
		{Keys: []int{}},
		{Keys: []int{0}},
		{Keys: []int{topKey}},
		{Keys: []int{0, topKey}},
		{Keys: []int{0, 1}},
		{Keys: []int{3, 127, 128, 200}},
		{Keys: rising(topList, topList-1)},
		{Keys: rising(topList, topKey)},
		{Hash: full},
		{Hash: api.Sum{31: 1}},
		{Hash: hashOf([]byte("hi"))},
		{After: 1},
		{After: topHeight},
		{Wait: 1},
		{Wait: topHeight},
		{After: topHeight - 1, Wait: 128},
		{Keys: rising(topList, topKey), Hash: full, After: topHeight, Wait: topHeight},
	}
}

// wrongKeys are keys of a way that may not be.
func wrongKeys() [][]int {
	return [][]int{
		{-1},
		{math.MinInt},
		{topKey + 1},
		{1 << 32},
		{math.MaxInt},
		{5, 5},
		{0, 0},
		{topKey, topKey},
		{6, 5},
		{1, 0},
		{-1, 0},
		{0, topKey + 1},
		{1, 2, 4, 3},
		{1, 3, 2, 4},
		{2, 1, 3, 4},
		{1, 2, 2, 4},
		{1, -1},
		append(rising(topList-1, 14), 14),
		rising(topList+1, topList),
		rising(topList+1, topKey),
		rising(1000, topKey),
	}
}

// wrongHeights are heights that may not be.
func wrongHeights() []int {
	return []int{-1, -2, -topHeight, math.MinInt, topHeight + 1, 2 * topHeight, 1 << 32, math.MaxInt}
}

// wrongWays are ways that may not be.
func wrongWays() []api.Way {
	var l []api.Way
	for _, keys := range wrongKeys() {
		l = append(l, api.Way{Keys: keys}, api.Way{Keys: keys, After: 7, Wait: 9})
	}
	for _, n := range wrongHeights() {
		l = append(l, api.Way{After: n}, api.Way{Wait: n}, api.Way{Keys: []int{1}, After: n, Wait: 3}, api.Way{Keys: []int{1}, After: 3, Wait: n})
	}
	return l
}

// rightOuts are outs that may be, with the edges.
func rightOuts() []api.Out {
	l := []api.Out{
		{Ways: rightWays()[:1]},
		{Amount: 1, Ways: rightWays()[:topList]},
		{Amount: 300, Ways: rightWays()[:2]},
		{Amount: topAmount, Ways: slices.Repeat(rightWays()[17:], topList)},
	}
	for i, w := range rightWays() {
		l = append(l, api.Out{Amount: topAmount - int64(i), Ways: []api.Way{w}}, api.Out{Amount: int64(i), Ways: []api.Way{w, {}, w}})
	}
	return l
}

// wrongOuts are outs that may not be.
func wrongOuts() []api.Out {
	l := []api.Out{
		{},
		{Amount: 5},
		{Amount: 5, Ways: []api.Way{}},
		{Amount: 5, Ways: make([]api.Way, topList+1)},
		{Amount: 5, Ways: make([]api.Way, 1000)},
	}
	for _, n := range []int64{-1, -topAmount, math.MinInt64, topAmount + 1, 1 << 62, math.MaxInt64} {
		l = append(l, api.Out{Amount: n, Ways: []api.Way{{}}})
	}
	for _, w := range wrongWays() {
		l = append(l, api.Out{Ways: []api.Way{w}}, api.Out{Ways: []api.Way{w, {}}}, api.Out{Ways: []api.Way{{}, {}, w}}, api.Out{Ways: append(make([]api.Way, topList-1), w)})
	}
	return l
}

func isOpen(t *testing.T, want bool, w api.Way, try lock.Try) {
	t.Helper()
	if got := lock.Opens(w, try); got != want {
		t.Errorf("%v is open to %v: %v, want %v", w, try, got, want)
	}
}

func Test7_1Hash(t *testing.T) {
	for _, pre := range [][]byte{nil, {}, {0}, {0, 0}, []byte("hi"), bytes.Repeat([]byte{31}, 64), make([]byte, 1000), make([]byte, api.MaxData+1)} {
		if got, want := lock.Hash(pre), hashOf(pre); got != want {
			t.Errorf("the hash of %d bytes is %x, want %x", len(pre), got, want)
		}
	}
}

// This hash comes of the document's words in another language.
func Test7_1KnownHash(t *testing.T) {
	got := lock.Hash([]byte("abc"))
	if want := "468342a647974f0eb9378fbd530d775e26114b1336625a7a815d53165e7f89a2"; hex.EncodeToString(got[:]) != want {
		t.Errorf("the hash of abc is %x, want %s", got, want)
	}
}

func Test7_1Right(t *testing.T) {
	for _, w := range rightWays() {
		if !lock.Right(w) {
			t.Errorf("%v may not be", w)
		}
	}
	for key := range topKey + 1 {
		if !lock.Right(api.Way{Keys: []int{key}}) {
			t.Errorf("the key %d may not be", key)
		}
	}
	for n := range topList + 1 {
		if !lock.Right(api.Way{Keys: rising(n, 100)}) {
			t.Errorf("%d keys may not be", n)
		}
	}
}

func Test7_1WaysThatMayNotBe(t *testing.T) {
	for _, w := range wrongWays() {
		if lock.Right(w) {
			t.Errorf("%v may be", w)
		}
	}
}

// Of two keys just those may be of which the second one is above.
func Test7_1KeysRise(t *testing.T) {
	for a := -2; a < 260; a++ {
		for b := -2; b < 260; b++ {
			want := a >= 0 && a < b && b <= topKey
			if got := lock.Right(api.Way{Keys: []int{a, b}}); got != want {
				t.Errorf("the keys %d and %d may be: %v", a, b, got)
			}
		}
	}
}

func Test7_1RightOut(t *testing.T) {
	for _, o := range rightOuts() {
		if !lock.RightOut(o) {
			t.Errorf("%v may not be", o)
		}
	}
	for n := range topList + 3 {
		want := n >= 1 && n <= topList
		if got := lock.RightOut(api.Out{Ways: make([]api.Way, n)}); got != want {
			t.Errorf("an out of %d ways may be: %v", n, got)
		}
	}
}

func Test7_1OutsThatMayNotBe(t *testing.T) {
	for _, o := range wrongOuts() {
		if lock.RightOut(o) {
			t.Errorf("%v may be", o)
		}
	}
}

func Test7_1AWayOfNothingIsOpenToAll(t *testing.T) {
	for _, try := range []lock.Try{{}, {Keys: []int{5, 5, -1}}, {Pre: []byte("hi")}, {Height: topHeight, Age: topHeight}, {Height: math.MaxInt}, {Age: math.MaxInt}} {
		isOpen(t, true, api.Way{}, try)
		isOpen(t, true, api.Way{Keys: []int{}}, try)
	}
}

func Test7_1OpensByKeys(t *testing.T) {
	for _, c := range []struct {
		way, try []int
		want     bool
	}{
		{[]int{1}, []int{1}, true},
		{[]int{1}, nil, false},
		{[]int{1}, []int{2}, false},
		{[]int{1}, []int{0, 2, 257, -1}, false},
		{[]int{0}, nil, false},
		{[]int{0}, []int{0}, true},
		{[]int{1, 2}, []int{1, 2}, true},
		{[]int{1, 2}, []int{2, 1}, true},
		{[]int{1, 2}, []int{2}, false},
		{[]int{1, 2}, []int{1}, false},
		{[]int{1, 2}, []int{1, 1}, false},
		{[]int{1, 2}, []int{9, 2, 7, 1, 5, 1}, true},
		{[]int{1, 2}, []int{9, 2, 7, 3, 5, 3}, false},
		{[]int{1, 2, 3}, []int{3, 1}, false},
		{[]int{topKey}, []int{topKey, topKey}, true},
		{[]int{2, 1}, []int{1, 2}, true},
		{[]int{1, 1}, []int{1}, true},
		{[]int{-1}, []int{-1}, true},
		{[]int{-1}, []int{255}, false},
		{[]int{300}, []int{300}, true},
		{[]int{300}, []int{44}, false},
		{[]int{math.MinInt, math.MaxInt}, []int{math.MaxInt, math.MinInt}, true},
		{rising(topList, topKey), rising(topKey+1, topKey), true},
		{rising(topList, topKey), rising(topKey, topKey-1), false},
	} {
		isOpen(t, c.want, api.Way{Keys: c.way}, lock.Try{Keys: c.try})
	}
}

// All kinds of keys from 0 to 3, of ways and of tries: open is what lacks none.
func Test7_1OpensIfNoKeyLacks(t *testing.T) {
	some := func(bits int) []int {
		var l []int
		for key := range 4 {
			if bits>>key&1 == 1 {
				l = append(l, key)
			}
		}
		return l
	}
	for way := range 16 {
		for try := range 16 {
			keys := some(try)
			slices.Reverse(keys)
			isOpen(t, way&^try == 0, api.Way{Keys: some(way)}, lock.Try{Keys: keys})
		}
	}
}

func Test7_1OpensOfVeryManyKeys(t *testing.T) {
	const many = 1 << 18
	keys := rising(many, many)
	other := slices.Clone(keys)
	slices.Reverse(other)
	if !lock.Opens(api.Way{Keys: keys}, lock.Try{Keys: other}) || lock.Opens(api.Way{Keys: keys}, lock.Try{Keys: other[1:]}) {
		t.Error("of very many keys a way is open otherwise")
	}
}

func Test7_1OpensByHash(t *testing.T) {
	for _, pre := range [][]byte{nil, {0}, []byte("hi"), make([]byte, 64), make([]byte, 1000)} {
		w := api.Way{Hash: hashOf(pre)}
		isOpen(t, true, w, lock.Try{Pre: pre})
		isOpen(t, false, w, lock.Try{Pre: append(slices.Clone(pre), 0)})
		isOpen(t, false, w, lock.Try{Pre: w.Hash[:]})
		if len(pre) > 0 {
			isOpen(t, false, w, lock.Try{})
			isOpen(t, false, w, lock.Try{Pre: pre[1:]})
		}
	}
	isOpen(t, true, api.Way{Hash: hashOf(nil)}, lock.Try{Pre: []byte{}})
	isOpen(t, false, api.Way{Hash: sha256.Sum256([]byte("hi"))}, lock.Try{Pre: []byte("hi")})
	isOpen(t, false, api.Way{Hash: api.Sum{31: 1}}, lock.Try{})
	for i := range 32 {
		hash := hashOf([]byte("hi"))
		hash[i] ^= 1
		isOpen(t, false, api.Way{Hash: hash}, lock.Try{Pre: []byte("hi")})
	}
}

func Test7_1OpensByHeightAndAge(t *testing.T) {
	edges := []int{math.MinInt, -topHeight, -1, 0, 1, 2, 100, topHeight - 1, topHeight, topHeight + 1, math.MaxInt}
	for _, least := range edges {
		for _, n := range edges {
			isOpen(t, n >= least, api.Way{After: least}, lock.Try{Height: n})
			isOpen(t, n >= least, api.Way{Wait: least}, lock.Try{Age: n})
			isOpen(t, n >= least, api.Way{After: least, Wait: 5}, lock.Try{Height: n, Age: 5})
			isOpen(t, n >= least, api.Way{After: 5, Wait: least}, lock.Try{Height: 5, Age: n})
		}
	}
}

func Test7_1OpensIfNothingLacks(t *testing.T) {
	pre := []byte("hi")
	w := api.Way{Keys: []int{1, 2}, Hash: hashOf(pre), After: 10, Wait: 20}
	for lacks := range 16 {
		try := lock.Try{Keys: []int{2, 1}, Pre: pre, Height: 10, Age: 20}
		if lacks&1 != 0 {
			try.Keys = []int{2}
		}
		if lacks&2 != 0 {
			try.Pre = []byte("ho")
		}
		if lacks&4 != 0 {
			try.Height = 9
		}
		if lacks&8 != 0 {
			try.Age = 19
		}
		isOpen(t, lacks == 0, w, try)
	}
	isOpen(t, false, w, lock.Try{Keys: []int{1, 2}, Pre: pre, Height: 20, Age: 10})
}

func Test7_1WhatIsHandedInIsNotChanged(t *testing.T) {
	room, keys := []int{9, 3, 5, 1, 8, 7}, []int{5, 3, 1}
	pre := []byte("a text, and more")
	hash := hashOf(pre[:6])
	w := api.Way{Keys: keys, Hash: hash}
	isOpen(t, true, w, lock.Try{Keys: room[:4:5], Pre: pre[:6]})
	isOpen(t, false, w, lock.Try{Keys: room[:2], Pre: pre[:6]})
	o := api.Out{Ways: []api.Way{w, {}}}
	lock.Right(w)
	lock.RightOut(o)
	lock.Sole(o, 1)
	lock.Same(o, o)
	if !slices.Equal(room, []int{9, 3, 5, 1, 8, 7}) || !slices.Equal(keys, []int{5, 3, 1}) || string(pre) != "a text, and more" || len(o.Ways) != 2 {
		t.Error("what was handed in has changed")
	}
}

func Test7_2To(t *testing.T) {
	for _, key := range []int{0, 1, 7, topKey, topKey + 1, -1, math.MinInt, math.MaxInt} {
		for _, amount := range []int64{0, 1, 1000, topAmount, topAmount + 1, -1, math.MinInt64, math.MaxInt64} {
			o := lock.To(key, amount)
			if o.Amount != amount || len(o.Ways) != 1 {
				t.Fatalf("%d to the key %d is %v", amount, key, o)
			}
			w := o.Ways[0]
			if !slices.Equal(w.Keys, []int{key}) || w.Hash != (api.Sum{}) || w.After != 0 || w.Wait != 0 {
				t.Errorf("%d to the key %d has the way %v", amount, key, w)
			}
			want := key >= 0 && key <= topKey && amount >= 0 && amount <= topAmount
			if lock.RightOut(o) != want {
				t.Errorf("%d to the key %d may be: %v", amount, key, !want)
			}
		}
	}
}

func Test7_2ToIsNewMemory(t *testing.T) {
	a, b := lock.To(3, 10), lock.To(3, 10)
	a.Ways[0].Keys[0] = 4
	a.Ways[0].Wait = 9
	if !lock.Same(b, lock.To(3, 10)) || !lock.Sole(lock.To(3, 10), 3) {
		t.Error("an answer shares memory")
	}
}

func isSole(t *testing.T, want bool, o api.Out, key int) {
	t.Helper()
	if got := lock.Sole(o, key); got != want {
		t.Errorf("%v is the key %d's alone: %v, want %v", o, key, got, want)
	}
}

func Test7_2Sole(t *testing.T) {
	keys := []int{0, 1, 2, topKey, topKey + 1, -1, math.MinInt, math.MaxInt}
	for _, own := range keys {
		for _, key := range keys {
			for _, amount := range []int64{0, 5, topAmount, -1, math.MaxInt64} {
				isSole(t, own == key, lock.To(own, amount), key)
			}
		}
	}
}

func Test7_2SoleOfOtherOuts(t *testing.T) {
	own := api.Way{Keys: []int{1}}
	isSole(t, true, api.Out{Amount: 5, Ways: []api.Way{own}}, 1)
	for _, ways := range [][]api.Way{
		nil,
		{},
		{{}},
		{own, own},
		{own, {}},
		{{}, own},
		{{Keys: []int{1, 2}}},
		{{Keys: []int{0, 1}}},
		{{Keys: []int{1, 1}}},
		{{Keys: []int{1}, Hash: api.Sum{1}}},
		{{Keys: []int{1}, Hash: api.Sum{31: 1}}},
		{{Keys: []int{1}, Hash: hashOf(nil)}},
		{{Keys: []int{1}, After: 1}},
		{{Keys: []int{1}, After: -1}},
		{{Keys: []int{1}, Wait: 1}},
		{{Keys: []int{1}, Wait: -1}},
	} {
		isSole(t, false, api.Out{Amount: 5, Ways: ways}, 1)
		isSole(t, false, api.Out{Amount: 5, Ways: ways}, 0)
	}
}

// unlike are outs no two of which are alike, those that may not be too.
func unlike() []api.Out {
	a, b := api.Way{Keys: []int{1, 2}}, api.Way{Keys: []int{3}}
	return []api.Out{
		{},
		{Amount: 1},
		{Amount: -1},
		{Ways: []api.Way{{}}},
		{Ways: []api.Way{{}, {}}},
		{Ways: []api.Way{a}},
		{Amount: 1, Ways: []api.Way{a}},
		{Ways: []api.Way{b}},
		{Ways: []api.Way{a, b}},
		{Ways: []api.Way{b, a}},
		{Ways: []api.Way{a, a}},
		{Ways: []api.Way{a, b, b}},
		{Ways: []api.Way{{Keys: []int{1}}, {Keys: []int{2, 3}}}},
		{Ways: []api.Way{{Keys: []int{2, 1}}}},
		{Ways: []api.Way{{Keys: []int{1, 3}}}},
		{Ways: []api.Way{{Keys: []int{1, 2, 3}}}},
		{Ways: []api.Way{{Keys: []int{1}}}},
		{Ways: []api.Way{{Keys: []int{257}}}},
		{Ways: []api.Way{{Keys: []int{-1}}}},
		{Ways: []api.Way{{Keys: []int{1, 2}, Hash: api.Sum{1}}}},
		{Ways: []api.Way{{Keys: []int{1, 2}, Hash: api.Sum{31: 1}}}},
		{Ways: []api.Way{{Keys: []int{1, 2}, After: 1}}},
		{Ways: []api.Way{{Keys: []int{1, 2}, Wait: 1}}},
		{Ways: []api.Way{{Keys: []int{1, 2}, After: 1, Wait: 1}}},
		{Ways: []api.Way{{Keys: []int{1, 2}, After: -1}}},
		{Ways: []api.Way{a, {Wait: 1}}},
	}
}

// clone is an out that is alike, in other memory.
func clone(o api.Out) api.Out {
	o.Ways = slices.Clone(o.Ways)
	for i := range o.Ways {
		o.Ways[i].Keys = slices.Clone(o.Ways[i].Keys)
	}
	return o
}

func Test7_2Same(t *testing.T) {
	l := unlike()
	for i, a := range l {
		for j, b := range l {
			if got := lock.Same(a, clone(b)); got != (i == j) {
				t.Errorf("%v and %v are alike: %v", a, b, got)
			}
		}
	}
	for _, o := range slices.Concat(rightOuts(), wrongOuts()) {
		if !lock.Same(o, clone(o)) {
			t.Errorf("%v is unlike itself", o)
		}
	}
}

func Test7_2NilIsTheEmptyList(t *testing.T) {
	for _, c := range [][2]api.Out{
		{{Amount: 3}, {Amount: 3, Ways: []api.Way{}}},
		{{Ways: []api.Way{{}}}, {Ways: []api.Way{{Keys: []int{}}}}},
	} {
		if !lock.Same(c[0], c[1]) || !lock.Same(c[1], c[0]) {
			t.Errorf("%v and %v are unlike", c[0], c[1])
		}
	}
}
