package appoint_test

import (
	"bytes"
	"encoding/hex"
	"fmt"
	"reflect"
	"slices"
	"testing"

	"bartizan/api"
	"bartizan/appoint"
	"bartizan/tx"
)

// isCovered holds what Cover answers against the bytes that it must be.
func isCovered(t *testing.T, commit api.Sum, x api.Tx, want []byte) {
	t.Helper()
	handed := copied(x)
	got, e := appoint.Cover(commit, x)
	if e != api.OK || !bytes.Equal(got, want) {
		t.Errorf("%d bytes under %x are covered to %d other ones, %v", len(packed(x)), commit[:4], len(got), e)
	}
	if !reflect.DeepEqual(x, handed) {
		t.Errorf("what was handed in has changed: %+v", x)
	}
}

// isUnmade holds what Cover answers against an error, and nothing.
func isUnmade(t *testing.T, what string, commit api.Sum, x api.Tx, want api.Errno) {
	t.Helper()
	if got, e := appoint.Cover(commit, x); e != want || len(got) != 0 {
		t.Errorf("%s is covered to %d bytes, %v, want %v", what, len(got), e, want)
	}
}

// isUncovered holds what Uncover answers against the transaction that it must be.
func isUncovered(t *testing.T, commit api.Sum, blob []byte, want api.Tx) {
	t.Helper()
	got, e := appoint.Uncover(commit, blob)
	if e != api.OK || !tx.Same(got, want) {
		t.Errorf("%d bytes under %x are uncovered to %d other ones, %v", len(blob), commit[:4], len(packed(got)), e)
	}
}

// isRefused holds what Uncover answers against an error, and nothing.
func isRefused(t *testing.T, what string, commit api.Sum, blob []byte, want api.Errno) {
	t.Helper()
	if got, e := appoint.Uncover(commit, blob); e != want || !isNothing(got) {
		t.Errorf("%s, %d bytes, is uncovered to %+v, %v, want %v", what, len(blob), got, e, want)
	}
}

func Test16_1Hint(t *testing.T) {
	for _, commit := range sums() {
		if got := appoint.Hint(commit); got != hintOf(commit) {
			t.Errorf("the hint of %x is %x", commit, got)
		}
	}
}

// These hints come of the document's words in another language.
func Test16_1KnownHints(t *testing.T) {
	for i, want := range []string{
		"3e4c114c0c388eef65f9962022626fd9518e602258eb5f9f19eb20d2a86e3e0e",
		"ad41e6d10a698a58ec3473ef6c5604cd2e5c74d4b5893f6a0eaca142ebe8eade",
		"a2d6097f4de871a68f70b3b41690e759198035239677e344ecdc13bf75783fa4",
	} {
		got := appoint.Hint(sums()[i])
		if hex.EncodeToString(got[:]) != want {
			t.Errorf("the hint of %x is %x", sums()[i], got)
		}
	}
}

func Test16_1EachBitHasAnotherHint(t *testing.T) {
	seen := map[api.Sum]int{appoint.Hint(risingSum()): 256}
	for i := range 256 {
		commit := risingSum()
		commit[i/8] ^= 1 << (i % 8)
		seen[appoint.Hint(commit)] = i
	}
	if len(seen) != 257 {
		t.Errorf("of 257 unlike sums there are %d hints", len(seen))
	}
}

func Test16_1Mark(t *testing.T) {
	for n := range 200 {
		if got := appoint.Mark(noise(n)); got != markOf(noise(n)) {
			t.Errorf("the mark of %d bytes is %x", n, got)
		}
	}
	for _, n := range []int{topText - 1, topText, topText + 1, topBlob, topBlob + 1, 1 << 20} {
		if got := appoint.Mark(noise(n)); got != markOf(noise(n)) {
			t.Errorf("the mark of %d bytes is %x", n, got)
		}
	}
	if appoint.Mark(nil) != appoint.Mark([]byte{}) {
		t.Error("the mark of nil is another one than that of no bytes")
	}
}

// These marks come of the document's words in another language.
func Test16_1KnownMarks(t *testing.T) {
	for _, k := range []struct {
		blob []byte
		want string
	}{
		{nil, "7244e162a74aac7fdd1961cca8856a9cf85a114a02145aa91e706cb225e725af"},
		{[]byte("abc"), "254b428b6c49fcb87f9be32370e81c9cf25226516730ce07e8861f72813ae22d"},
		{make([]byte, topBlob), "cd08413689e7c2f1ff29ae1139825ecd8ed107b201a302749927ed7bdd6f0d6f"},
	} {
		got := appoint.Mark(k.blob)
		if hex.EncodeToString(got[:]) != k.want {
			t.Errorf("the mark of %d bytes is %x, want %s", len(k.blob), got, k.want)
		}
	}
}

func Test16_1EachBitHasAnotherMark(t *testing.T) {
	blob := noise(40)
	seen := map[api.Sum]int{appoint.Mark(blob): 320}
	for i := range 320 {
		blob[i/8] ^= 1 << (i % 8)
		seen[appoint.Mark(blob)] = i
		blob[i/8] ^= 1 << (i % 8)
	}
	for n := range 40 {
		seen[appoint.Mark(blob[:n])] = n
	}
	if len(seen) != 361 || !bytes.Equal(blob, noise(40)) {
		t.Errorf("of 361 unlike blobs there are %d marks", len(seen))
	}
}

// Hint, key and mark of the same bytes are unlike: who has one has none of the others.
func Test16_1TagsAreUnlike(t *testing.T) {
	for _, commit := range sums() {
		hint, mark := appoint.Hint(commit), appoint.Mark(commit[:])
		if hint == mark || hint == commit || mark == commit {
			t.Errorf("of %x the hint is %x, and the mark %x", commit, hint, mark)
		}
		for _, other := range []api.Sum{hint, mark, commit} {
			isRefused(t, "what is covered under no key", commit, closed(other, packed(rich())), api.ErrForm)
		}
	}
}

func Test16_1CoverIsOfTheBytes(t *testing.T) {
	for _, commit := range sums() {
		for _, x := range rightTxs() {
			isCovered(t, commit, x, closed(keyOf(commit), packed(x)))
		}
	}
}

// What is covered comes of the document's words in another language.
func Test16_1KnownCovers(t *testing.T) {
	want := [3][3]string{
		{"dda700e42cd14185c2534a0ecd1c356801abe8ca07770cbd90e28a57b21d3a73", "6872d96568ab01ce16826fe2396660adf08521927d9db96266d295c9183afd60", "63c30e6b71a34432dc529e0451a437d5e031b2dabb35a7dbf73da2df0c2beaa0"},
		{"d2f3d19e52cfbab6e57f16aef9da8221d088ccc28d605433b7b5c522116f6e92", "3d961059971dbb4d9c07df9bf0a477a07ad69bcddf16005b3fdf0af0877bafed", "98e8824dba46cf537901ca844524b6429ec97977bf8980ee98c691a4f2ea18e8"},
		{"68907e95f84e4a08d59ce3642f302c915237f03c4cc93fb19dd289e6eed5a25d", "fcb5a440636694560ed86c7ce527faf89d146611f55cadd0bdf0c5605f54a223", "f10a6e03a089827faf4d1f0e0954f4d17347be8c58f0b294ed09c655980e0706"},
	}
	for i, commit := range sums()[:3] {
		for j, x := range []api.Tx{least(), rich(), long(65000)} {
			b, e := appoint.Cover(commit, x)
			if e != api.OK || hexOf(b) != want[i][j] {
				t.Errorf("transaction %d under sum %d is covered to %d bytes, summed to %s, %v", j, i, len(b), hexOf(b), e)
			}
			isUncovered(t, commit, b, x)
		}
	}
}

func Test16_1CoverOfWhatMayNotBe(t *testing.T) {
	for _, commit := range sums() {
		for i, x := range wrongTxs() {
			isUnmade(t, fmt.Sprint("transaction ", i), commit, x, api.ErrArg)
		}
	}
}

// Of a transaction's bytes 65536 are covered, and no more.
func Test16_1CoverOfTooManyBytes(t *testing.T) {
	for _, commit := range sums() {
		for _, x := range []api.Tx{rich(), long(0)} {
			for _, n := range []int{topText - 2, topText - 1, topText} {
				fits := ofLength(t, n, x)
				isCovered(t, commit, fits, closed(keyOf(commit), packed(fits)))
			}
			for _, n := range []int{topText + 1, topText + 2, topText + 16} {
				isUnmade(t, fmt.Sprint(n, " bytes"), commit, ofLength(t, n, x), api.ErrLong)
			}
		}
		isUnmade(t, "as much data as may be", commit, long(topText), api.ErrLong)
		full := crowded()
		full.Op.Data = noise(topText)
		isUnmade(t, "as much as may be of all", commit, full, api.ErrLong)
	}
}

// What may not be is told ahead of that it is too long.
func Test16_1CoverAnswersTheFirstError(t *testing.T) {
	x := long(topText)
	x.Op.Tower = 16
	isUnmade(t, "too long, of no tower", risingSum(), x, api.ErrArg)
	isUnmade(t, "too much data", risingSum(), long(topText+1), api.ErrArg)
	isUnmade(t, "too long", risingSum(), long(topText), api.ErrLong)
}

func Test16_1UncoverIsTheTransaction(t *testing.T) {
	for _, commit := range sums() {
		for _, x := range rightTxs() {
			isUncovered(t, commit, closed(keyOf(commit), packed(x)), x)
		}
	}
}

func Test16_1UncoverOfTooFewBytes(t *testing.T) {
	for _, commit := range sums() {
		isRefused(t, "nothing", commit, nil, api.ErrShort)
		whole := closed(keyOf(commit), packed(least()))
		for n := range 16 {
			isRefused(t, "too few bytes", commit, whole[:n], api.ErrShort)
			isRefused(t, "too few zeros", commit, make([]byte, n), api.ErrShort)
		}
		for n := 16; n < len(whole); n++ {
			isRefused(t, "a cut", commit, whole[:n], api.ErrForm)
		}
	}
}

func Test16_1UncoverOfTooManyBytes(t *testing.T) {
	for _, commit := range sums()[:3] {
		x := ofLength(t, topText, rich())
		isUncovered(t, commit, closed(keyOf(commit), packed(x)), x)
		for _, n := range []int{topText + 1, topText + 2, 2 * topText} {
			more := ofLength(t, topText+1, rich())
			b := append(packed(more), make([]byte, n-topText-1)...)
			isRefused(t, "too many bytes", commit, closed(keyOf(commit), b), api.ErrLong)
			isRefused(t, "too many zeros", commit, make([]byte, n+16), api.ErrLong)
		}
		isRefused(t, "as many zeros as may be", commit, make([]byte, topBlob), api.ErrForm)
	}
}

func Test16_1EachBitOfTheBlobCounts(t *testing.T) {
	commit := risingSum()
	blob := closed(keyOf(commit), packed(rich()))
	for i := range len(blob) * 8 {
		blob[i/8] ^= 1 << (i % 8)
		isRefused(t, fmt.Sprint("bit ", i), commit, blob, api.ErrForm)
		blob[i/8] ^= 1 << (i % 8)
	}
	isUncovered(t, commit, blob, rich())
}

func Test16_1EachBitOfTheCommitmentCounts(t *testing.T) {
	blob := closed(keyOf(risingSum()), packed(rich()))
	for i := range 256 {
		commit := risingSum()
		commit[i/8] ^= 1 << (i % 8)
		isRefused(t, fmt.Sprint("bit ", i), commit, blob, api.ErrForm)
	}
	isUncovered(t, risingSum(), blob, rich())
}

// What is opened, but is no transaction, has Read's error.
func Test16_1UncoverOfWhatIsNoTransaction(t *testing.T) {
	twice := least()
	twice.Ins = slices.Repeat(twice.Ins, 2)
	unsorted := rich()
	unsorted.Signs = []api.Sign{{Key: 5}, {Key: 5}}
	many := append([]byte{17}, packed(least())[1:]...)
	other := append([]byte{0x81, 0}, packed(least())[1:]...)
	for _, commit := range sums() {
		for _, c := range []struct {
			what string
			text []byte
			want api.Errno
		}{
			{"an empty text", nil, api.ErrShort},
			{"one byte", []byte{1}, api.ErrShort},
			{"too much", append(packed(rich()), 0), api.ErrLong},
			{"two", slices.Concat(packed(rich()), packed(least())), api.ErrLong},
			{"17 ins", many, api.ErrRange},
			{"another form", other, api.ErrForm},
			{"nine bytes of one number", bytes.Repeat([]byte{0xff}, 9), api.ErrRange},
			{"no in and no op", packed(api.Tx{}), api.ErrForm},
			{"one out twice", packed(twice), api.ErrForm},
			{"one sign twice", packed(unsorted), api.ErrForm},
			{"a text as long as may be", make([]byte, topText), api.ErrLong},
		} {
			isRefused(t, c.what, commit, closed(keyOf(commit), c.text), c.want)
		}
	}
	text := packed(rich())
	for n := range text {
		isRefused(t, "a cut", full(), closed(keyOf(full()), text[:n]), api.ErrShort)
	}
}

// Open's error is told ahead of Read's.
func Test16_1UncoverAnswersTheFirstError(t *testing.T) {
	commit := risingSum()
	blob := closed(keyOf(commit), append(packed(rich()), 0))
	isRefused(t, "too much", commit, blob, api.ErrLong)
	isRefused(t, "too much, another sum", full(), blob, api.ErrForm)
	blob[3] ^= 1
	isRefused(t, "too much, another mark", commit, blob, api.ErrForm)
	isRefused(t, "nothing at all", commit, blob[:15], api.ErrShort)
	isRefused(t, "a far too long text of no form", commit, closed(keyOf(commit), bytes.Repeat([]byte{0xff}, topText+1)), api.ErrLong)
}

func Test16_1BlobsAreNotChanged(t *testing.T) {
	commit := risingSum()
	for _, x := range rightTxs() {
		room := append(closed(keyOf(commit), packed(x)), noise(50)...)
		want := slices.Clone(room)
		n := len(room) - 50
		isUncovered(t, commit, room[:n], x)
		appoint.Mark(room[:n])
		appoint.Uncover(full(), room[:n])
		if !bytes.Equal(room, want) {
			t.Errorf("%d bytes that were handed in have changed", n)
		}
	}
}

func Test16_1AnswersAreNewMemory(t *testing.T) {
	commit := risingSum()
	for i, x := range rightTxs() {
		want := closed(keyOf(commit), packed(x))
		first, _ := appoint.Cover(commit, x)
		second, _ := appoint.Cover(commit, x)
		spoil(x)
		if !bytes.Equal(first, want) {
			t.Errorf("transaction %d was kept", i)
		}
		got, _ := appoint.Uncover(commit, first)
		again, _ := appoint.Uncover(commit, first)
		clear(first)
		if !bytes.Equal(second, want) || !isAlike(got, again) {
			t.Errorf("transaction %d: an answer shares memory", i)
		}
		spoil(got)
		if !isAlike(again, rightTxs()[i]) || !bytes.Equal(second, want) {
			t.Errorf("transaction %d, uncovered, shares memory", i)
		}
	}
}
