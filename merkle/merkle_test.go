package merkle_test

import (
	"crypto/sha256"
	"math"
	"slices"
	"testing"

	"bartizan/api"
	"bartizan/merkle"
)

// named is n unlike sums, none of which is a leaf or a root of others.
func named(n int) []api.Sum {
	l := make([]api.Sum, n)
	for i := range l {
		l[i] = api.Sum{byte(i), byte(i >> 8), byte(i >> 16), 31: 0xa5}
	}
	return l
}

// leaf is Join of the tag 1 and a sum, by the library's SHA-256.
func leaf(s api.Sum) api.Sum {
	return sha256.Sum256(append([]byte{1, 0, 0, 0, 32}, s[:]...))
}

// pair is Pair with the tag 2, by the library's SHA-256.
func pair(a, b api.Sum) api.Sum {
	text := append([]byte{2, 0, 0, 0, 32}, a[:]...)
	text = append(text, 0, 0, 0, 32)
	return sha256.Sum256(append(text, b[:]...))
}

// cut is how many leaves of n stand under the left one of the highest pair: the greatest power of two below n.
func cut(n int) int {
	k := 1
	for 2*k < n {
		k *= 2
	}
	return k
}

// top is the root of a list that is not empty. It comes from above, and knows no rows.
func top(l []api.Sum) api.Sum {
	if len(l) == 1 {
		return leaf(l[0])
	}
	k := cut(len(l))
	return pair(top(l[:k]), top(l[k:]))
}

// way is the path of a place that a list has, the lowest first. It comes from above, too.
func way(at int, l []api.Sum) []api.Sum {
	if len(l) == 1 {
		return nil
	}
	k := cut(len(l))
	if at < k {
		return append(way(at, l[:k]), top(l[k:]))
	}
	return append(way(at-k, l[k:]), top(l[:k]))
}

// turns tells of each pair above a place, the lowest first, on which side the way to the root goes: L or R.
func turns(at, many int) string {
	if many == 1 {
		return ""
	}
	k := cut(many)
	if at < k {
		return turns(at, k) + "L"
	}
	return turns(at-k, many-k) + "R"
}

// climb is what a leaf comes to by a path, on the sides that the turns tell.
func climb(s api.Sum, path []api.Sum, turns string) api.Sum {
	s = leaf(s)
	for i, p := range path {
		if turns[i] == 'L' {
			s = pair(s, p)
		} else {
			s = pair(p, s)
		}
	}
	return s
}

// pathOf is the path of a place that there is.
func pathOf(t *testing.T, at int, l []api.Sum) []api.Sum {
	t.Helper()
	path, ok := merkle.Path(at, l...)
	if !ok {
		t.Fatalf("place %d of %d is none", at, len(l))
	}
	return path
}

func isPath(t *testing.T, at int, l []api.Sum, want []api.Sum) {
	t.Helper()
	if path := pathOf(t, at, l); !slices.Equal(path, want) {
		t.Errorf("the path of place %d of %d is %x, want %x", at, len(l), path, want)
	}
}

func isChecked(t *testing.T, want bool, root, s api.Sum, at, many int, path []api.Sum) {
	t.Helper()
	if got := merkle.Check(root, s, at, many, path); got != want {
		t.Errorf("place %d of %d with a path of %d is checked: %v, want %v", at, many, len(path), got, want)
	}
}

func Test3_1Leaf(t *testing.T) {
	full := api.Sum{}
	for i := range full {
		full[i] = 0xff
	}
	for _, s := range append(named(300), api.Sum{}, full, leaf(full)) {
		if merkle.Leaf(s) != leaf(s) {
			t.Errorf("the leaf of %x is %x, want %x", s, merkle.Leaf(s), leaf(s))
		}
	}
}

func Test3_1RootOfNothing(t *testing.T) {
	want := api.Sum(sha256.Sum256([]byte{3}))
	if merkle.Root() != want || merkle.Root(nil...) != want || merkle.Root([]api.Sum{}...) != want {
		t.Error("the root of nothing is not Join of the tag 3")
	}
}

func Test3_1RootOfOneIsItsLeaf(t *testing.T) {
	for _, s := range append(named(3), api.Sum{}) {
		if merkle.Root(s) != leaf(s) {
			t.Errorf("the root of %x is %x", s, merkle.Root(s))
		}
	}
}

func Test3_1RootRowByRow(t *testing.T) {
	l := named(9)
	var f [9]api.Sum
	for i, s := range l {
		f[i] = leaf(s)
	}
	ab, cd, ef, gh := pair(f[0], f[1]), pair(f[2], f[3]), pair(f[4], f[5]), pair(f[6], f[7])
	for n, want := range map[int]api.Sum{
		2: ab,
		3: pair(ab, f[2]),
		4: pair(ab, cd),
		5: pair(pair(ab, cd), f[4]),
		6: pair(pair(ab, cd), ef),
		7: pair(pair(ab, cd), pair(ef, f[6])),
		8: pair(pair(ab, cd), pair(ef, gh)),
		9: pair(pair(pair(ab, cd), pair(ef, gh)), f[8]),
	} {
		if got := merkle.Root(l[:n]...); got != want {
			t.Errorf("the root of %d is %x, want %x", n, got, want)
		}
	}
}

func Test3_1RootOfEachLength(t *testing.T) {
	l := named(20000)
	lengths := []int{1000, 1023, 1024, 1025, 2049, 4095, 4096, 4097, 20000}
	for n := range 200 {
		lengths = append(lengths, n+1)
	}
	for _, n := range lengths {
		if got, want := merkle.Root(l[:n]...), top(l[:n]); got != want {
			t.Errorf("the root of %d is %x, want %x", n, got, want)
		}
	}
}

// An order, a sum that stands there twice, and how many there are: a root hangs on each.
func Test3_1UnlikeListsHaveUnlikeRoots(t *testing.T) {
	seen := map[api.Sum]int{}
	many := 0
	add := func(l ...api.Sum) {
		seen[merkle.Root(l...)]++
		many++
	}
	l := named(6)
	for n := range len(l) + 1 {
		add(l[:n]...)
		for i := 1; i < n; i++ {
			swapped := slices.Clone(l[:n])
			swapped[i-1], swapped[i] = swapped[i], swapped[i-1]
			add(swapped...)
		}
	}
	for n := range 9 {
		add(slices.Repeat(l[:1], n+2)...)
	}
	add(l[0], l[1], l[2], l[2])
	add(l[0], l[1], l[2], l[3], l[4], l[4])
	add(l[0], l[1], l[2], l[3], l[4], l[4], l[4], l[4])
	add(append(l[:5:5], api.Sum{})...)
	add(api.Sum{})
	if len(seen) != many {
		t.Errorf("%d unlike lists have %d roots", many, len(seen))
	}
}

func Test3_1PathRowByRow(t *testing.T) {
	l := named(7)
	var f [7]api.Sum
	for i, s := range l {
		f[i] = leaf(s)
	}
	ab, cd, ef := pair(f[0], f[1]), pair(f[2], f[3]), pair(f[4], f[5])
	abcd, efg := pair(ab, cd), pair(ef, f[6])
	isPath(t, 0, l[:1], nil)
	isPath(t, 0, l[:2], []api.Sum{f[1]})
	isPath(t, 1, l[:2], []api.Sum{f[0]})
	isPath(t, 0, l[:3], []api.Sum{f[1], f[2]})
	isPath(t, 1, l[:3], []api.Sum{f[0], f[2]})
	isPath(t, 2, l[:3], []api.Sum{ab})
	isPath(t, 3, l[:4], []api.Sum{f[2], ab})
	isPath(t, 0, l[:5], []api.Sum{f[1], cd, f[4]})
	isPath(t, 4, l[:5], []api.Sum{abcd})
	isPath(t, 5, l[:6], []api.Sum{f[4], abcd})
	isPath(t, 2, l, []api.Sum{f[3], ab, efg})
	isPath(t, 4, l, []api.Sum{f[5], f[6], abcd})
	isPath(t, 6, l, []api.Sum{ef, abcd})
}

func Test3_1PathOfEachPlace(t *testing.T) {
	for n := range 70 {
		l := named(n + 1)
		for at := range l {
			isPath(t, at, l, way(at, l))
		}
	}
}

func Test3_1PathOfLongLists(t *testing.T) {
	for _, n := range []int{1025, 4095, 4096, 4097, 9000} {
		l := named(n)
		for _, at := range []int{0, 1, n / 2, n - 2, n - 1} {
			isPath(t, at, l, way(at, l))
		}
	}
}

func Test3_1NoSuchPlace(t *testing.T) {
	for _, n := range []int{0, 1, 2, 3, 4, 7, 8, 4096} {
		l := named(n)
		for _, at := range []int{-1, -2, -n - 1, math.MinInt, n, n + 1, 2 * (n + 1), math.MaxInt} {
			if path, ok := merkle.Path(at, l...); ok || len(path) != 0 {
				t.Errorf("place %d of %d has a path of %d, %v", at, n, len(path), ok)
			}
		}
	}
	if path, ok := merkle.Path(0); ok || len(path) != 0 {
		t.Error("nothing has a place")
	}
}

func Test3_1WhatIsHandedInIsNotChanged(t *testing.T) {
	for n := range 20 {
		room := named(40)
		l := room[:n:30]
		merkle.Root(l...)
		for at := -1; at <= n; at++ {
			merkle.Path(at, l...)
		}
		if !slices.Equal(room, named(40)) {
			t.Errorf("a list of %d has changed", n)
		}
	}
}

func Test3_1PathIsNewMemory(t *testing.T) {
	l := named(8)
	first, second := pathOf(t, 3, l), pathOf(t, 2, l)
	want := slices.Clone(second)
	clear(first)
	_ = append(first, api.Sum{1}, api.Sum{2})
	if !slices.Equal(l, named(8)) || !slices.Equal(second, want) || !slices.Equal(pathOf(t, 2, l), want) {
		t.Error("an answer shares memory")
	}
	clear(l)
	if !slices.Equal(second, want) {
		t.Error("a list that was handed in was kept")
	}
}

func Test3_2PathByHand(t *testing.T) {
	l := named(5)
	var f [5]api.Sum
	for i, s := range l {
		f[i] = leaf(s)
	}
	ab, cd := pair(f[0], f[1]), pair(f[2], f[3])
	root := pair(pair(ab, cd), f[4])
	isChecked(t, true, f[0], l[0], 0, 1, nil)
	isChecked(t, true, f[0], l[0], 0, 1, []api.Sum{})
	isChecked(t, true, ab, l[0], 0, 2, []api.Sum{f[1]})
	isChecked(t, true, ab, l[1], 1, 2, []api.Sum{f[0]})
	isChecked(t, true, root, l[0], 0, 5, []api.Sum{f[1], cd, f[4]})
	isChecked(t, true, root, l[1], 1, 5, []api.Sum{f[0], cd, f[4]})
	isChecked(t, true, root, l[2], 2, 5, []api.Sum{f[3], ab, f[4]})
	isChecked(t, true, root, l[3], 3, 5, []api.Sum{f[2], ab, f[4]})
	isChecked(t, true, root, l[4], 4, 5, []api.Sum{pair(ab, cd)})
}

// Whether a sum is checked at a place hangs on the turns of the way from there alone.
func Test3_2OtherPlacesAndLengths(t *testing.T) {
	for n := 1; n <= 9; n++ {
		l := named(n)
		root := top(l)
		for i, s := range l {
			path := way(i, l)
			for many := -2; many <= 20; many++ {
				for at := -3; at <= 21; at++ {
					same := at >= 0 && at < many && turns(at, many) == turns(i, n)
					isChecked(t, same, root, s, at, many, path)
				}
			}
		}
	}
}

func Test3_2OtherSums(t *testing.T) {
	for _, n := range []int{1, 2, 3, 5, 8, 13} {
		l := named(n)
		root := top(l)
		for i, s := range l {
			path := way(i, l)
			isChecked(t, true, root, s, i, n, path)
			for _, other := range append(named(n+1), api.Sum{}, root, leaf(s)) {
				isChecked(t, other == s, root, other, i, n, path)
			}
			for _, bit := range []int{0, 100, 255} {
				isChecked(t, false, root, flipped(s, bit), i, n, path)
				isChecked(t, false, flipped(root, bit), s, i, n, path)
			}
			isChecked(t, false, api.Sum{}, s, i, n, path)
			isChecked(t, false, s, s, i, n, path)
			isChecked(t, n == 1, leaf(s), s, i, n, path)
		}
	}
}

// flipped is a sum of which one bit is another one.
func flipped(s api.Sum, bit int) api.Sum {
	s[bit/8] ^= 1 << (bit % 8)
	return s
}

func Test3_2OtherPaths(t *testing.T) {
	for n := range 17 {
		l := named(n + 1)
		root := top(l)
		for i, s := range l {
			path := way(i, l)
			for j := range path {
				other := slices.Clone(path)
				other[j] = flipped(other[j], 9)
				isChecked(t, false, root, s, i, n+1, other)
				isChecked(t, false, root, s, i, n+1, slices.Delete(slices.Clone(path), j, j+1))
				isChecked(t, false, root, s, i, n+1, slices.Insert(slices.Clone(path), j, api.Sum{}))
				if j > 0 {
					other = slices.Clone(path)
					other[j-1], other[j] = other[j], other[j-1]
					isChecked(t, false, root, s, i, n+1, other)
				}
			}
			for _, more := range []api.Sum{{}, root, leaf(s)} {
				isChecked(t, false, root, s, i, n+1, append(slices.Clone(path), more))
			}
			isChecked(t, len(path) == 0, root, s, i, n+1, nil)
		}
	}
}

// Where there is no such place nothing is checked, to whatever root a path leads.
func Test3_2NoSuchPlace(t *testing.T) {
	const sides = "LLLRLRRRLL" // each three sides stand in it
	s := named(1)[0]
	path := named(4)[1:]
	for n := range len(path) + 1 {
		for from := range len(sides) - n + 1 {
			root := climb(s, path[:n], sides[from:from+n])
			for many := -3; many <= 9; many++ {
				for _, at := range []int{-1, -2, -3, -4, -8, math.MinInt, many, many + 1, many + 2, 16, 1 << 20, math.MaxInt} {
					if at < 0 || at >= many {
						isChecked(t, false, root, s, at, many, path[:n])
					}
				}
			}
			for _, many := range []int{math.MinInt, math.MinInt + 1, -4096} {
				isChecked(t, false, root, s, 0, many, path[:n])
				isChecked(t, false, root, s, many, many, path[:n])
			}
		}
	}
}

func Test3_2NothingStandsInNoList(t *testing.T) {
	isChecked(t, false, merkle.Root(), api.Sum{}, 0, 0, nil)
	isChecked(t, false, merkle.Root(), api.Sum{}, -1, 0, nil)
	isChecked(t, false, api.Sum{}, api.Sum{}, 0, 0, nil)
	isChecked(t, false, leaf(api.Sum{}), api.Sum{}, 0, 0, nil)
	isChecked(t, false, api.Sum{}, api.Sum{}, 0, 1, nil)
	isChecked(t, true, leaf(api.Sum{}), api.Sum{}, 0, 1, nil)
}

func Test3_2UpTo4096(t *testing.T) {
	if merkle.MaxLeaves != 4096 {
		t.Fatalf("MaxLeaves is %d", merkle.MaxLeaves)
	}
	for _, n := range []int{4095, 4096, 4097, 4098, 8192, 10000} {
		l := named(n)
		root := top(l)
		for _, at := range []int{0, 1, 2047, 2048, n - 2, n - 1} {
			isChecked(t, n <= 4096, root, l[at], at, n, way(at, l))
		}
	}
}

// A place of a list that is too long is refused even if the list has but one highest pair, or its length is beyond all others.
func Test3_2TooLongIsNotChecked(t *testing.T) {
	s, other := named(2)[0], named(2)[1]
	isChecked(t, true, pair(other, leaf(s)), s, 2048, 2049, []api.Sum{other})
	isChecked(t, false, pair(other, leaf(s)), s, 4096, 4097, []api.Sum{other})
	isChecked(t, false, pair(other, leaf(s)), s, 1<<40, 1<<40+1, []api.Sum{other})
	long := named(64)
	for many, rows := range map[int]int{1 << 13: 13, 1 << 20: 20, 1 << 62: 62, math.MaxInt: 63} {
		isChecked(t, false, climb(s, long[:rows], lefts(rows)), s, 0, many, long[:rows])
	}
}

// lefts is so many turns to the left.
func lefts(n int) string {
	b := make([]byte, n)
	for i := range b {
		b[i] = 'L'
	}
	return string(b)
}

// What stands above the lowest row is no leaf of a shorter list, and a leaf no sum of one.
func Test3_2HigherRowsAreNoLeaves(t *testing.T) {
	l := named(4)
	root := top(l)
	left, right := top(l[:2]), top(l[2:])
	isChecked(t, false, root, left, 0, 2, []api.Sum{right})
	isChecked(t, false, root, root, 0, 1, nil)
	isChecked(t, false, root, leaf(l[0]), 0, 4, way(0, l))
	if merkle.Root(left, right) == root {
		t.Error("a pair is taken for a leaf")
	}
}

func Test3_2WhatIsHandedInIsNotChanged(t *testing.T) {
	l := named(13)
	root := top(l)
	for i, s := range l {
		want := way(i, l)
		room := append(slices.Clone(want), named(20)...)
		path := room[: len(want) : len(want)+5]
		isChecked(t, true, root, s, i, len(l), path)
		isChecked(t, false, s, s, i, len(l), path)
		if !slices.Equal(path, want) || !slices.Equal(room[len(want):], named(20)) {
			t.Errorf("the path of place %d has changed", i)
		}
	}
}

func isCheckedByItsPath(t *testing.T, at int, root api.Sum, l []api.Sum) {
	t.Helper()
	isChecked(t, true, root, l[at], at, len(l), pathOf(t, at, l))
}

func Test3_3EachPlaceIsCheckedByItsPath(t *testing.T) {
	for n := range 130 {
		l := named(n + 1)
		root := merkle.Root(l...)
		for at := range l {
			isCheckedByItsPath(t, at, root, l)
		}
	}
}

func Test3_3LongLists(t *testing.T) {
	for _, n := range []int{511, 512, 513, 1000, 2047, 2049, 4094, 4095, 4096} {
		l := named(n)
		root := merkle.Root(l...)
		for at := 0; at < n; at += n/9 + 1 {
			isCheckedByItsPath(t, at, root, l)
		}
		isCheckedByItsPath(t, n-1, root, l)
	}
}

func Test3_3SumsThatAreAlike(t *testing.T) {
	for n := range 20 {
		for _, s := range []api.Sum{{}, named(1)[0]} {
			l := slices.Repeat([]api.Sum{s}, n+1)
			root := merkle.Root(l...)
			for at := range l {
				isCheckedByItsPath(t, at, root, l)
			}
		}
	}
}
