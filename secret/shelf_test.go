package secret_test

import (
	"math"
	"slices"
	"testing"

	"bartizan/api"
	"bartizan/secret"
)

// topShelf is how many secrets a shelf has at most: one ahead of the last one there are 2^20, which are not more than 2^20.
const topShelf = 1<<20 + 1

// beyond are numbers that are no state's.
var beyond = []int{-1, -2, -topShelf, math.MinInt, math.MaxInt, 1 << 31, 1 << 32, 1 << 40}

// secrets are n unlike ones.
func secrets(n int) []api.Sum {
	var l []api.Sum
	for i := range n {
		l = append(l, joined(99, []byte{byte(i >> 8), byte(i)}))
	}
	return l
}

// put puts secrets on a shelf.
func put(t *testing.T, s *secret.Shelf, l ...api.Sum) {
	t.Helper()
	for _, x := range l {
		if e := s.Put(x, hashOf(x)); e != api.OK {
			t.Fatalf("%x is not put: %v", x, e)
		}
	}
}

// shelfOf is a shelf of secrets.
func shelfOf(t *testing.T, l ...api.Sum) *secret.Shelf {
	t.Helper()
	s := &secret.Shelf{}
	put(t, s, l...)
	return s
}

// isShelf holds all that a shelf tells against the secrets that it must have.
func isShelf(t *testing.T, s *secret.Shelf, want ...api.Sum) {
	t.Helper()
	if s.Len() != len(want) {
		t.Errorf("there are %d, want %d", s.Len(), len(want))
	}
	if got := s.All(); !slices.Equal(got, want) {
		t.Errorf("all are %x, want %x", got, want)
	}
	for i, x := range want {
		if got, ok := s.Get(i); !ok || got != x {
			t.Errorf("the one of %d is %x, %v, want %x", i, got, ok, x)
		}
	}
	for _, n := range append([]int{len(want), len(want) + 1, 1<<32 + len(want) - 1}, beyond...) {
		if got, ok := s.Get(n); ok || got != (api.Sum{}) {
			t.Errorf("the one of %d is %x, %v, want none", n, got, ok)
		}
	}
}

// isRefused holds an error of Put against what it must be, and sees that nothing was put.
func isRefused(t *testing.T, s *secret.Shelf, x, hash api.Sum, want api.Errno) {
	t.Helper()
	n := s.Len()
	if e := s.Put(x, hash); e != want || s.Len() != n {
		t.Errorf("%x is put by %x: %v, and there are %d, want %v, and %d", x[:4], hash[:4], e, s.Len(), want, n)
	}
}

func Test13_2TheZeroShelfHasNone(t *testing.T) {
	isShelf(t, &secret.Shelf{})
	isShelf(t, new(secret.Shelf))
	var s secret.Shelf
	isShelf(t, &s)
}

func Test13_2PutIsTheSecretOfTheNextState(t *testing.T) {
	s := &secret.Shelf{}
	l := secrets(300)
	for i, x := range l {
		put(t, s, x)
		isShelf(t, s, l[:i+1]...)
	}
}

func Test13_2SecretsByASeedArePutByTheirPoints(t *testing.T) {
	s, seed := &secret.Shelf{}, api.Sum{7}
	for state := range 40 {
		if e := s.Put(secret.Of(seed, state), secret.Point(seed, state)); e != api.OK {
			t.Errorf("%d: %v", state, e)
		}
	}
	for state := range 40 {
		if x, ok := s.Get(state); !ok || x != secret.Of(seed, state) {
			t.Errorf("the one of %d is %x, %v", state, x, ok)
		}
	}
}

func Test13_2AnySumIsPutByWhatItIsKnownBy(t *testing.T) {
	l := sums()
	isShelf(t, shelfOf(t, l...), l...)
	same := []api.Sum{l[1], l[1], {}, {}, l[1], l[2], l[1]}
	isShelf(t, shelfOf(t, same...), same...)
}

func Test13_2PutOfWhatIsNotKnownByTheHash(t *testing.T) {
	for _, n := range []int{0, 1, 2, 9} {
		l := secrets(n + 2)
		s, x, y := shelfOf(t, l[:n]...), l[n], l[n+1]
		for _, hash := range []api.Sum{{}, x, y, hashOf(y), hashOf(hashOf(x)), joined(31), joined(61, x[:]), joined(32, x[:]), joined(31, x[:31])} {
			isRefused(t, s, x, hash, api.ErrProof)
		}
		isRefused(t, s, api.Sum{}, api.Sum{}, api.ErrProof)
		isRefused(t, s, hashOf(x), x, api.ErrProof)
		isRefused(t, s, hashOf(x), hashOf(x), api.ErrProof)
		isShelf(t, s, l[:n]...)
		put(t, s, x)
		isShelf(t, s, l[:n+1]...)
	}
}

func Test13_2EachBitOfSecretAndHashCounts(t *testing.T) {
	s := &secret.Shelf{}
	for _, x := range sums() {
		for i := range 256 {
			other, hash := x, hashOf(x)
			other[i/8] ^= 1 << (i % 8)
			isRefused(t, s, other, hash, api.ErrProof)
			hash[i/8] ^= 1 << (i % 8)
			isRefused(t, s, x, hash, api.ErrProof)
		}
	}
	isShelf(t, s)
}

func Test13_2PutOfMoreThanAShelfHas(t *testing.T) {
	l := secrets(3)
	same, last, more := l[0], l[1], l[2]
	s, hash := &secret.Shelf{}, hashOf(same)
	for s.Len() < topShelf-1 {
		if e := s.Put(same, hash); e != api.OK {
			t.Fatalf("at %d: %v", s.Len(), e)
		}
	}
	isRefused(t, s, more, hash, api.ErrProof)
	put(t, s, last)
	isFull(t, s, last, more)
	c := s.Clone()
	isFull(t, &c, last, more)
}

// isFull sees that a shelf has all that it may, and the last one, and takes no more.
func isFull(t *testing.T, s *secret.Shelf, last, more api.Sum) {
	t.Helper()
	for range 2 {
		isRefused(t, s, more, hashOf(more), api.ErrFull)
		isRefused(t, s, last, hashOf(last), api.ErrFull)
		isRefused(t, s, more, hashOf(last), api.ErrProof)
	}
	if x, ok := s.Get(topShelf - 1); !ok || x != last {
		t.Errorf("the last one is %x, %v", x, ok)
	}
	if x, ok := s.Get(topShelf); ok || x != (api.Sum{}) {
		t.Errorf("behind the last one is %x, %v", x, ok)
	}
	if all := s.All(); len(all) != topShelf || all[topShelf-1] != last {
		t.Errorf("all are %d", len(all))
	}
}

func Test13_2ANilShelf(t *testing.T) {
	var s *secret.Shelf
	x := sums()[1]
	for range 2 {
		isRefused(t, s, x, hashOf(x), api.ErrArg)
		isRefused(t, s, x, api.Sum{}, api.ErrArg)
		isRefused(t, s, api.Sum{}, api.Sum{}, api.ErrArg)
		isShelf(t, s)
	}
	if _, ok := s.Get(0); ok {
		t.Error("there is one")
	}
	c := s.Clone()
	isShelf(t, &c)
	put(t, &c, x)
	isShelf(t, &c, x)
	isShelf(t, s)
}

func Test13_2CloneGoesItsOwnWay(t *testing.T) {
	for n := range 70 {
		l := secrets(n + 8)
		s := shelfOf(t, l[:n]...)
		a, b := s.Clone(), s.Clone()
		isShelf(t, &a, l[:n]...)
		put(t, &a, l[n], l[n+1])
		put(t, s, l[n+2], l[n+3], l[n+4])
		put(t, &b, l[n+5])
		c := a.Clone()
		put(t, &c, l[n+6])
		put(t, &a, l[n+7])
		isShelf(t, s, slices.Concat(l[:n], l[n+2:n+5])...)
		isShelf(t, &a, slices.Concat(l[:n+2], l[n+7:])...)
		isShelf(t, &b, slices.Concat(l[:n], l[n+5:n+6])...)
		isShelf(t, &c, slices.Concat(l[:n+2], l[n+6:n+7])...)
	}
}

func Test13_2AShelfThatIsCopiedGoesItsOwnWay(t *testing.T) {
	for n := range 70 {
		l := secrets(n + 6)
		s := shelfOf(t, l[:n]...)
		a := *s
		b := a
		put(t, s, l[n], l[n+1])
		put(t, &a, l[n+2])
		put(t, &b, l[n+3])
		put(t, &a, l[n+4])
		put(t, s, l[n+5])
		isShelf(t, s, slices.Concat(l[:n+2], l[n+5:])...)
		isShelf(t, &a, slices.Concat(l[:n], l[n+2:n+3], l[n+4:n+5])...)
		isShelf(t, &b, slices.Concat(l[:n], l[n+3:n+4])...)
		c := b.Clone()
		isShelf(t, &c, slices.Concat(l[:n], l[n+3:n+4])...)
	}
}

func Test13_2AnswersAreNewMemory(t *testing.T) {
	l := secrets(9)
	s := shelfOf(t, l...)
	for range 3 {
		all := s.All()
		behind := append(all, api.Sum{9})
		for i := range behind[:cap(behind)] {
			behind[:cap(behind)][i] = api.Sum{8}
		}
		for i := range all[:cap(all)] {
			all[:cap(all)][i] = api.Sum{7}
		}
		isShelf(t, s, l...)
	}
	put(t, s, sums()...)
	isShelf(t, s, slices.Concat(l, sums())...)
}

func Test13_2WhatWasAnsweredStays(t *testing.T) {
	l := secrets(20)
	s := shelfOf(t, l[:9]...)
	all := s.All()
	c := s.Clone()
	put(t, s, l[9:]...)
	put(t, &c, l[15:]...)
	if !slices.Equal(all, l[:9]) {
		t.Errorf("all are %x now", all)
	}
}

func Test13_2ShelvesAreOnTheirOwn(t *testing.T) {
	l := secrets(6)
	a, b := &secret.Shelf{}, &secret.Shelf{}
	put(t, a, l[0])
	put(t, b, l[1], l[2])
	put(t, a, l[3], l[4])
	put(t, b, l[5])
	isShelf(t, a, l[0], l[3], l[4])
	isShelf(t, b, l[1], l[2], l[5])
}
