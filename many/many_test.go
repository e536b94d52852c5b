package many_test

import (
	"bytes"
	"crypto/sha256"
	"encoding/hex"
	"math"
	"slices"
	"testing"

	"bartizan/api"
	"bartizan/lamport"
	"bartizan/many"
	"bartizan/merkle"
)

// seedOf is the seed of a leaf, by the library's SHA-256.
func seedOf(seed api.Sum, place byte) api.Sum {
	text := append([]byte{21, 0, 0, 0, 32}, seed[:]...)
	return sha256.Sum256(append(text, 0, 0, 0, 1, place))
}

// leavesOf are the first n leaves of a seed.
func leavesOf(seed api.Sum, n int) []api.Sum {
	l := make([]api.Sum, n)
	for i := range l {
		l[i] = lamport.Public(seedOf(seed, byte(i)))
	}
	return l
}

// packed is the bytes of a signature whose numbers are below 128: what the leaf signed is a text.
func packed(at, leaves int, path []api.Sum, once []byte) []byte {
	b := []byte{byte(at), byte(leaves), byte(len(path))}
	for _, s := range path {
		b = append(b, s[:]...)
	}
	if n := len(once); n < 128 {
		b = append(b, byte(n))
	} else {
		b = append(b, byte(n%128+128), byte(n/128))
	}
	return append(b, once...)
}

// signed is the signature of a text by one of a list of leaves, which are those of a seed.
func signed(t *testing.T, seed api.Sum, l []api.Sum, at int, text []byte) []byte {
	t.Helper()
	path, ok := merkle.Path(at, l...)
	if !ok {
		t.Fatalf("leaf %d of %d is none", at, len(l))
	}
	return packed(at, len(l), path, lamport.Sign(seedOf(seed, byte(at)), text))
}

// seeds are unlike seeds, with the least and the greatest one.
func seeds() []api.Sum {
	var full api.Sum
	for i := range full {
		full[i] = 0xff
	}
	return []api.Sum{{}, full, {1}, {31: 1}, {0: 7, 31: 9}}
}

// noise is n bytes that no call made.
func noise(n int) []byte {
	b := make([]byte, n)
	for i := range b {
		b[i] = byte(i*i>>3 + 5*i)
	}
	return b
}

// sums is n unlike sums.
func sums(n int) []api.Sum {
	l := make([]api.Sum, n)
	for i := range l {
		l[i] = api.Sum{byte(i), 31: 0xa5}
	}
	return l
}

func newKey(t *testing.T, seed api.Sum, leaves int) *many.Key {
	t.Helper()
	k, e := many.New(seed, leaves)
	if k == nil || e != api.OK {
		t.Fatalf("a key of %d leaves is %v, %v", leaves, k, e)
	}
	return k
}

func sign(t *testing.T, k *many.Key, text []byte) []byte {
	t.Helper()
	sig, e := k.Sign(text)
	if e != api.OK {
		t.Fatalf("leaf %d, with %d left, did not sign: %v", k.Next(), k.Left(), e)
	}
	return sig
}

// isAt holds which leaf of a key is next, and how many are left.
func isAt(t *testing.T, k *many.Key, next, left int) {
	t.Helper()
	if k.Next() != next || k.Left() != left {
		t.Errorf("next is %d, left are %d, want %d and %d", k.Next(), k.Left(), next, left)
	}
}

// isUsed holds that no leaf of a key signs any more, and that asking changes nothing.
func isUsed(t *testing.T, k *many.Key, next int) {
	t.Helper()
	for range 2 {
		sig, e := k.Sign([]byte("one more"))
		if len(sig) != 0 || e != api.ErrUsed {
			t.Errorf("with no leaf left, %d bytes are signed, %v", len(sig), e)
		}
		isAt(t, k, next, 0)
	}
}

func isLeaf(t *testing.T, sig []byte, want int) {
	t.Helper()
	if got := many.Leaf(sig); got != want {
		t.Errorf("the leaf of %d bytes, begun with %x, is %d, want %d", len(sig), sig[:min(6, len(sig))], got, want)
	}
}

func isVerified(t *testing.T, want bool, root api.Sum, text, sig []byte) {
	t.Helper()
	if got := many.Verify(root, text, sig); got != want {
		t.Errorf("%d bytes, begun with %x, are verified: %v, want %v", len(sig), sig[:min(6, len(sig))], got, want)
	}
}

func Test5_1MaxLeaves(t *testing.T) {
	if many.MaxLeaves != 64 {
		t.Errorf("MaxLeaves is %d", many.MaxLeaves)
	}
}

func Test5_1Seed(t *testing.T) {
	seen := map[api.Sum]bool{}
	for _, seed := range seeds() {
		for leaf := range 256 {
			got := many.Seed(seed, leaf)
			if want := seedOf(seed, byte(leaf)); got != want {
				t.Errorf("the seed of leaf %d is %x, want %x", leaf, got, want)
			}
			seen[got] = true
		}
	}
	if want := len(seeds()) * 256; len(seen) != want {
		t.Errorf("%d seeds, want %d", len(seen), want)
	}
}

func Test5_1SeedTakesTheLowestBits(t *testing.T) {
	seed := seeds()[4]
	for leaf, low := range map[int]byte{
		256: 0, 257: 1, 511: 255, 1<<32 + 3: 3, 0x1234: 0x34, math.MaxInt: 255,
		-1: 255, -2: 254, -256: 0, -257: 255, math.MinInt: 0, math.MinInt + 9: 9,
	} {
		if many.Seed(seed, leaf) != seedOf(seed, low) {
			t.Errorf("of leaf %d the lowest eight bits are not %d", leaf, low)
		}
	}
}

func Test5_1New(t *testing.T) {
	for leaves := 1; leaves <= 64; leaves++ {
		isAt(t, newKey(t, api.Sum{7}, leaves), 0, leaves)
	}
}

func Test5_1NewOfWrongNumbers(t *testing.T) {
	for _, leaves := range []int{0, -1, -64, math.MinInt, 65, 66, 128, 257, 4096, 1<<32 + 1, math.MaxInt} {
		if k, e := many.New(api.Sum{7}, leaves); k != nil || e != api.ErrArg {
			t.Errorf("a key of %d leaves is %v, %v", leaves, k, e)
		}
	}
}

// These roots come of the document's words in another language.
func Test5_1KnownRoots(t *testing.T) {
	for leaves, want := range map[int]string{
		1:  "0a9ea46da4d4abdc00ee8ee79630b3f03dc31c5c8e3fbe13fa472d08d7073059",
		3:  "2f634c6da3ab036f5b4a9a8dbafba072b1d42aa9db58830cf9f3deb52517fe40",
		64: "aeb4975b5696dfb461f9c328f7f9fa4da7b816ba4b7b8a770a6b2cffd42d5df1",
	} {
		root := newKey(t, api.Sum{7}, leaves).Root()
		if got := hex.EncodeToString(root[:]); got != want {
			t.Errorf("the root of %d leaves is %s, want %s", leaves, got, want)
		}
	}
}

func Test5_1Root(t *testing.T) {
	for _, seed := range seeds() {
		l := leavesOf(seed, 9)
		for n := 1; n <= len(l); n++ {
			if got, want := newKey(t, seed, n).Root(), merkle.Root(l[:n]...); got != want {
				t.Errorf("the root of %d leaves is %x, want %x", n, got, want)
			}
		}
	}
	l := leavesOf(api.Sum{7}, 64)
	for n := 1; n <= len(l); n++ {
		if got, want := newKey(t, api.Sum{7}, n).Root(), merkle.Root(l[:n]...); got != want {
			t.Errorf("the root of %d leaves is %x, want %x", n, got, want)
		}
	}
}

func Test5_1RootStays(t *testing.T) {
	k := newKey(t, api.Sum{7}, 5)
	root := k.Root()
	sign(t, k, []byte("a"))
	k.Skip(3)
	sign(t, k, []byte("b"))
	k.Skip(1)
	k.Skip(5)
	k.Sign([]byte("c"))
	if k.Root() != root || root != merkle.Root(leavesOf(api.Sum{7}, 5)...) {
		t.Error("a root hangs on what was signed")
	}
}

func Test5_1LeftAndNext(t *testing.T) {
	k := newKey(t, api.Sum{7}, 4)
	for i := range 4 {
		isAt(t, k, i, 4-i)
		sign(t, k, []byte("text"))
	}
	isAt(t, k, 4, 0)
}

func Test5_1Skip(t *testing.T) {
	for from := range 6 {
		for to := -2; to <= 8; to++ {
			k := newKey(t, api.Sum{7}, 5)
			k.Skip(from)
			want, next := api.OK, to
			if to < from || to > 5 {
				want, next = api.ErrRange, from
			}
			if e := k.Skip(to); e != want {
				t.Errorf("skipping from %d to %d is %v, want %v", from, to, e, want)
			}
			isAt(t, k, next, 5-next)
		}
	}
}

func Test5_1SkipOfWrongPlaces(t *testing.T) {
	for _, leaves := range []int{1, 2, 64} {
		k := newKey(t, api.Sum{7}, leaves)
		sign(t, k, nil)
		for _, to := range []int{0, -1, math.MinInt, leaves + 1, 2 * (leaves + 1), 65, math.MaxInt} {
			if e := k.Skip(to); e != api.ErrRange {
				t.Errorf("of %d leaves, skipping from 1 to %d is %v", leaves, to, e)
			}
			isAt(t, k, 1, leaves-1)
		}
	}
}

func Test5_1SkippedLeavesDoNotSign(t *testing.T) {
	l := leavesOf(api.Sum{7}, 6)
	k := newKey(t, api.Sum{7}, 6)
	for _, to := range []int{0, 2, 5} {
		if e := k.Skip(to); e != api.OK {
			t.Errorf("skipping to %d is %v", to, e)
		}
		text := []byte{byte(to)}
		if got := sign(t, k, text); !bytes.Equal(got, signed(t, api.Sum{7}, l, to, text)) {
			t.Errorf("behind skipping to %d leaf %d signs", to, many.Leaf(got))
		}
		isAt(t, k, to+1, 5-to)
	}
	k = newKey(t, api.Sum{7}, 6)
	if e := k.Skip(6); e != api.OK {
		t.Errorf("skipping to the end is %v", e)
	}
	isUsed(t, k, 6)
}

func Test5_2Sign(t *testing.T) {
	for _, seed := range seeds() {
		for _, n := range []int{1, 2, 3, 7} {
			l := leavesOf(seed, n)
			k := newKey(t, seed, n)
			for at := range n {
				text := noise(40 * at)
				if got, want := sign(t, k, text), signed(t, seed, l, at, text); !bytes.Equal(got, want) {
					t.Errorf("leaf %d of %d signs otherwise", at, n)
				}
				isAt(t, k, at+1, n-at-1)
			}
			isUsed(t, k, n)
		}
	}
}

func Test5_2SignWithTheMostLeaves(t *testing.T) {
	l := leavesOf(api.Sum{7}, 64)
	k := newKey(t, api.Sum{7}, 64)
	for at := range 64 {
		text := []byte{byte(at)}
		if got, want := sign(t, k, text), signed(t, api.Sum{7}, l, at, text); !bytes.Equal(got, want) {
			t.Errorf("leaf %d of 64 signs otherwise", at)
		}
	}
	isUsed(t, k, 64)
}

func Test5_2SignOfManyTexts(t *testing.T) {
	l := leavesOf(api.Sum{7}, 2)
	for _, text := range [][]byte{nil, {}, {0}, []byte("a text"), noise(64), noise(4096), noise(api.MaxData + 1)} {
		k := newKey(t, api.Sum{7}, 2)
		for at := range 2 {
			if got, want := sign(t, k, text), signed(t, api.Sum{7}, l, at, text); !bytes.Equal(got, want) {
				t.Errorf("leaf %d signs %d bytes otherwise", at, len(text))
			}
		}
	}
}

// How many bytes a signature has hangs on its path alone: three numbers, the path, 4096 as a number, and so many bytes.
func Test5_2HowLongASignatureIs(t *testing.T) {
	for leaves, path := range map[int]int{1: 0, 2: 1, 3: 2, 4: 2, 5: 3, 64: 6} {
		sig := sign(t, newKey(t, api.Sum{7}, leaves), []byte("hi"))
		if want := 3 + 32*path + 2 + 4096; len(sig) != want {
			t.Errorf("a signature of %d leaves has %d bytes, want %d", leaves, len(sig), want)
		}
	}
}

func Test5_2KeysGoOnByThemselves(t *testing.T) {
	a, b := newKey(t, api.Sum{7}, 3), newKey(t, api.Sum{7}, 3)
	first := sign(t, a, []byte("hi"))
	a.Skip(3)
	isAt(t, a, 3, 0)
	isAt(t, b, 0, 3)
	if !bytes.Equal(sign(t, b, []byte("hi")), first) {
		t.Error("a key hangs on what another one did")
	}
	sign(t, newKey(t, api.Sum{8}, 3), []byte("hi"))
	isAt(t, b, 1, 2)
}

func Test5_2WhatIsHandedInIsNotChangedOrKept(t *testing.T) {
	seed, room := api.Sum{7}, noise(100)
	k := newKey(t, seed, 2)
	text := room[:50:90]
	first := sign(t, k, text)
	if !bytes.Equal(room, noise(100)) {
		t.Error("a text has changed")
	}
	want := signed(t, seed, leavesOf(seed, 2), 0, text)
	clear(room)
	if !bytes.Equal(first, want) {
		t.Error("a signature hangs on a text that was handed in")
	}
	clear(first)
	_ = append(first, noise(50)...)
	second := sign(t, k, noise(100)[:50])
	if !bytes.Equal(second, signed(t, seed, leavesOf(seed, 2), 1, noise(100)[:50])) {
		t.Error("an answer shares memory")
	}
}

func Test5_3LeafOfWhatAKeySigns(t *testing.T) {
	for _, n := range []int{1, 2, 5, 64} {
		k := newKey(t, api.Sum{9}, n)
		for at := range n {
			isLeaf(t, sign(t, k, []byte("hi")), at)
		}
	}
}

// Bytes may be a signature's that no key ever made: the numbers need not fit each other.
func Test5_3LeafUpToTheBounds(t *testing.T) {
	for _, at := range []int{0, 1, 63, 64} {
		for _, leaves := range []int{0, 1, 63, 64} {
			for _, path := range []int{0, 1, 6, 7, 8} {
				for _, once := range []int{0, 1, 127, 128, 4095, 4096} {
					isLeaf(t, packed(at, leaves, sums(path), noise(once)), at)
				}
			}
		}
	}
}

// wrong are bytes that are no signature's.
func wrong() [][]byte {
	once := noise(4096)
	whole := packed(1, 2, sums(1), once)
	behind := whole[3:]
	return [][]byte{
		nil,
		{},
		{0},
		{0, 0},
		{0, 0, 0},
		packed(65, 64, sums(1), once),
		packed(127, 64, sums(1), once),
		packed(1, 65, sums(1), once),
		packed(1, 127, sums(1), once),
		packed(1, 64, sums(9), once),
		packed(1, 64, sums(127), once),
		packed(1, 2, sums(1), noise(4097)),
		packed(1, 2, sums(1), noise(10000)),
		slices.Concat(whole, []byte{0}),
		slices.Concat(whole, whole),
		slices.Concat([]byte{0}, whole),
		whole[1:],
		slices.Concat([]byte{0x81, 0, 2, 1}, behind),        // the place in two bytes
		slices.Concat([]byte{1, 0x82, 0, 1}, behind),        // how many leaves there are in two bytes
		slices.Concat([]byte{1, 2, 0x81, 0}, behind),        // how many sums the path has in two bytes
		slices.Concat([]byte{0x81, 1, 2, 1}, behind),        // the place is 129
		slices.Concat([]byte{1, 0x82, 1, 1}, behind),        // there are 130 leaves
		slices.Concat([]byte{1, 2, 0x81, 1}, behind),        // the path has 129 sums
		slices.Concat([]byte{1, 2, 2}, behind),              // the path has a sum more
		slices.Concat([]byte{1, 2, 0}, behind),              // the path has a sum less
		slices.Concat(whole[:35], []byte{0x80, 0x20}),       // the text lacks
		slices.Concat(whole[:35], []byte{0x80, 0xa0, 0}),    // its length in three bytes
		slices.Concat(whole[:35], []byte{0xff, 0x1f}, once), // its length is one less
		slices.Concat(whole[:35], []byte{0x81, 0x20}, once), // its length is one more
		slices.Concat(bytes.Repeat([]byte{0x80}, 9), []byte{2, 1}, behind),
		slices.Concat([]byte{1, 2}, bytes.Repeat([]byte{0xff}, 8), []byte{0x7f}, behind),
		bytes.Repeat([]byte{0xff}, 5000),
	}
}

func Test5_3WhatIsNoSignature(t *testing.T) {
	for _, sig := range wrong() {
		isLeaf(t, sig, -1)
		for _, root := range []api.Sum{{}, {7}, merkle.Root(), merkle.Leaf(api.Sum{})} {
			isVerified(t, false, root, []byte("hi"), sig)
		}
	}
}

func Test5_3NoPartOfASignatureIsOne(t *testing.T) {
	k := newKey(t, api.Sum{7}, 5)
	sig := sign(t, k, []byte("hi"))
	for n := range sig {
		isLeaf(t, sig[:n], -1)
		isVerified(t, false, k.Root(), []byte("hi"), sig[:n])
	}
	for n := 1; n <= 40; n++ {
		isLeaf(t, append(slices.Clone(sig), noise(n)...), -1)
		isVerified(t, false, k.Root(), []byte("hi"), append(slices.Clone(sig), noise(n)...))
	}
	isLeaf(t, sig, 0)
	isVerified(t, true, k.Root(), []byte("hi"), sig)
}

// A signature that is in all but one of its forms right is refused, though it would lead to the root.
func Test5_3OtherFormsAreNotVerified(t *testing.T) {
	k := newKey(t, api.Sum{7}, 2)
	sign(t, k, nil)
	text := []byte("hi")
	sig := sign(t, k, text)
	isVerified(t, true, k.Root(), text, sig)
	for _, head := range [][]byte{{0x81, 0, 2, 1}, {1, 0x82, 0, 1}, {1, 2, 0x81, 0}} {
		isLeaf(t, slices.Concat(head, sig[3:]), -1)
		isVerified(t, false, k.Root(), text, slices.Concat(head, sig[3:]))
	}
	long := slices.Concat(sig[:35], []byte{0x80, 0xa0, 0}, sig[37:])
	isLeaf(t, long, -1)
	isVerified(t, false, k.Root(), text, long)
}

func Test5_3VerifyOfWhatIsPutTogether(t *testing.T) {
	text := []byte("a text")
	for _, seed := range seeds() {
		for _, n := range []int{1, 2, 3, 6} {
			l := leavesOf(seed, n)
			root := merkle.Root(l...)
			for at := range n {
				sig := signed(t, seed, l, at, text)
				isVerified(t, true, root, text, sig)
				isVerified(t, false, root, []byte("a texu"), sig)
				isVerified(t, false, root, nil, sig)
				isVerified(t, false, api.Sum{}, text, sig)
				isVerified(t, n == 1, merkle.Leaf(l[at]), text, sig)
				isVerified(t, false, l[at], text, sig)
				other := root
				other[31] ^= 1
				isVerified(t, false, other, text, sig)
			}
		}
	}
}

// What leads to a sum without an error is verified by a path alone: whoever made it, it is of some root.
func Test5_3VerifyUnderAnyRoot(t *testing.T) {
	text, once := []byte("a text"), noise(4096)
	leaf, e := lamport.Back(text, once)
	if e != api.OK {
		t.Fatal(e)
	}
	l := append(sums(5), leaf)
	root := merkle.Root(l...)
	path, _ := merkle.Path(5, l...)
	isVerified(t, true, root, text, packed(5, 6, path, once))
	isVerified(t, false, root, text, packed(4, 6, path, once))
	isVerified(t, false, root, []byte("another"), packed(5, 6, path, once))
	isVerified(t, true, merkle.Leaf(leaf), text, packed(0, 1, nil, once))
	isVerified(t, false, merkle.Root(), text, packed(0, 0, nil, once))
}

// What stands behind a path is a text, whatever it is; but another length leads to no sum.
func Test5_3TextsOfOtherLengths(t *testing.T) {
	k := newKey(t, api.Sum{7}, 1)
	sig := sign(t, k, []byte("hi"))
	once := sig[len(sig)-4096:]
	for _, n := range []int{0, 1, 32, 64, 127, 128, 2048, 4064, 4095} {
		short := packed(0, 1, nil, once[:n])
		isLeaf(t, short, 0)
		for _, root := range []api.Sum{k.Root(), {}, merkle.Leaf(api.Sum{})} {
			isVerified(t, false, root, []byte("hi"), short)
		}
	}
	isVerified(t, true, k.Root(), []byte("hi"), packed(0, 1, nil, once))
}

// Whether a signature is verified with other numbers hangs on chapter 3's Check alone.
func Test5_3OtherPlacesAndNumbersOfLeaves(t *testing.T) {
	text := []byte("hi")
	l := leavesOf(api.Sum{7}, 5)
	root := merkle.Root(l...)
	for _, own := range []int{0, 3, 4} {
		path, _ := merkle.Path(own, l...)
		once := lamport.Sign(seedOf(api.Sum{7}, byte(own)), text)
		for leaves := range 20 {
			for at := range 20 {
				sig := packed(at, leaves, path, once)
				isLeaf(t, sig, at)
				isVerified(t, merkle.Check(root, l[own], at, leaves, path), root, text, sig)
			}
		}
		isVerified(t, false, root, text, packed(64, 64, path, once))
	}
}

func Test5_3OtherPaths(t *testing.T) {
	text := []byte("hi")
	l := leavesOf(api.Sum{7}, 6)
	root := merkle.Root(l...)
	path, _ := merkle.Path(2, l...)
	once := lamport.Sign(seedOf(api.Sum{7}, 2), text)
	isVerified(t, true, root, text, packed(2, 6, path, once))
	for i := range path {
		other := slices.Clone(path)
		other[i][9] ^= 4
		isVerified(t, false, root, text, packed(2, 6, other, once))
		isVerified(t, false, root, text, packed(2, 6, slices.Delete(slices.Clone(path), i, i+1), once))
	}
	for n := 1; len(path)+n <= 8; n++ {
		more := append(slices.Clone(path), sums(n)...)
		isLeaf(t, packed(2, 6, more, once), 2)
		isVerified(t, false, root, text, packed(2, 6, more, once))
	}
	isVerified(t, false, root, text, packed(2, 6, nil, once))
}

func Test5_3EachByteOfASignatureCounts(t *testing.T) {
	text := []byte("a text")
	k := newKey(t, api.Sum{7}, 5)
	k.Skip(4)
	sig := sign(t, k, text)
	for i := range sig {
		if i == 1 {
			continue // whether another number of leaves has the same turns is chapter 3's
		}
		sig[i] ^= 1
		isVerified(t, false, k.Root(), text, sig)
		sig[i] ^= 1
	}
	isVerified(t, true, k.Root(), text, sig)
}

func Test5_3WhatIsHandedInIsNotChanged(t *testing.T) {
	k := newKey(t, api.Sum{7}, 3)
	sig := sign(t, k, noise(30))
	room, text := append(slices.Clone(sig), noise(500)...), noise(60)
	want := slices.Clone(room)
	part := room[: len(sig) : len(sig)+200]
	isLeaf(t, part, 0)
	isVerified(t, true, k.Root(), text[:30:50], part)
	isVerified(t, false, api.Sum{}, text[:31:50], part)
	if !bytes.Equal(room, want) || !bytes.Equal(text, noise(60)) {
		t.Error("a text or a signature has changed")
	}
}

func Test5_3NilKey(t *testing.T) {
	var k *many.Key
	if k.Root() != (api.Sum{}) {
		t.Errorf("a nil key's root is %x", k.Root())
	}
	isAt(t, k, 0, 0)
	for _, to := range []int{0, 1, -1, 64, math.MinInt, math.MaxInt} {
		if e := k.Skip(to); e != api.ErrRange {
			t.Errorf("a nil key skips to %d: %v", to, e)
		}
	}
	isUsed(t, k, 0)
}

// A key that nobody made has no leaves.
func Test5_3KeyThatNobodyMade(t *testing.T) {
	var k many.Key
	isAt(t, &k, 0, 0)
	for _, to := range []int{1, -1, 64, math.MinInt, math.MaxInt} {
		if e := k.Skip(to); e != api.ErrRange {
			t.Errorf("a key that nobody made skips to %d: %v", to, e)
		}
	}
	k.Root()
	isUsed(t, &k, 0)
}

func Test5_4WhatAKeySignsIsVerified(t *testing.T) {
	for _, seed := range seeds()[2:] {
		for _, n := range []int{1, 2, 3, 4, 5, 8, 13} {
			k := newKey(t, seed, n)
			root := k.Root()
			for at := range n {
				text := noise(300 * at)
				sig := sign(t, k, text)
				isVerified(t, true, root, text, sig)
				isVerified(t, false, root, noise(300*at+1), sig)
			}
		}
	}
}

func Test5_4EachOfTheMostLeavesIsVerified(t *testing.T) {
	k := newKey(t, api.Sum{1, 2, 3}, 64)
	root := k.Root()
	for at := range 64 {
		text := []byte{byte(at)}
		isVerified(t, true, root, text, sign(t, k, text))
	}
}

func Test5_4OtherKeysAreNotVerified(t *testing.T) {
	text := []byte("hi")
	var keys []*many.Key
	for _, seed := range seeds() {
		for _, n := range []int{1, 2, 3} {
			keys = append(keys, newKey(t, seed, n))
		}
	}
	for i, k := range keys {
		sig := sign(t, k, text)
		for j, other := range keys {
			isVerified(t, i == j, other.Root(), text, sig)
		}
	}
}

// firstSecret is what a signature shows at its first place. One leaf shows the same one for each text with that bit.
func firstSecret(sig []byte) api.Sum {
	return api.Sum(sig[len(sig)-4096:][:32])
}

// However a key is used, its leaves come one behind the other, and none of them signs twice.
func Test5_4NoLeafSignsTwice(t *testing.T) {
	for n := 1; n <= 64; n += 9 {
		for turn := range 12 {
			k := newKey(t, api.Sum{5}, n)
			last := -1
			seen := map[api.Sum]bool{}
			for i := range 2 * n {
				k.Skip(last)
				k.Skip(last + (i*turn)%4)
				sig, e := k.Sign([]byte("the same text"))
				if e != api.OK {
					break
				}
				if at := many.Leaf(sig); at <= last || at >= n {
					t.Errorf("leaf %d of %d signs behind leaf %d", at, n, last)
				}
				if seen[firstSecret(sig)] {
					t.Errorf("a leaf of %d signs twice", n)
				}
				seen[firstSecret(sig)] = true
				last = many.Leaf(sig)
			}
			k.Skip(n)
			k.Skip(0)
			isUsed(t, k, n)
		}
	}
}

func Test5_4AKeyOfOneLeafSignsOnce(t *testing.T) {
	k := newKey(t, api.Sum{7}, 1)
	isVerified(t, true, k.Root(), []byte("hi"), sign(t, k, []byte("hi")))
	isUsed(t, k, 1)
	if e := k.Skip(0); e != api.ErrRange {
		t.Errorf("a leaf that signed is next again: %v", e)
	}
	if e := k.Skip(1); e != api.OK {
		t.Errorf("skipping to where it is, is %v", e)
	}
	isUsed(t, k, 1)
}
