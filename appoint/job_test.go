package appoint_test

import (
	"bytes"
	"encoding/hex"
	"fmt"
	"math"
	"reflect"
	"slices"
	"testing"

	"bartizan/api"
	"bartizan/appoint"
)

// rightNumbers are numbers of channels and states that may be, with the edges.
var rightNumbers = []int{0, 1, 127, 128, 300, 16383, 16384, topNumber - 1, topNumber}

// wrongNumbers are numbers that may not be.
var wrongNumbers = []int{-1, -2, -topNumber, math.MinInt, math.MinInt + 1, -1 << 32, topNumber + 1, topNumber + 2, 2 * topNumber, 1 << 32, 1<<32 + 5, math.MaxInt}

// towers are numbers of towers, of those that may be and of those that may not be.
var towers = []int{-1, 0, 1, 3, 7, 14, 15, 16, 100, 1 << 32, math.MinInt, math.MaxInt}

// jobs are jobs that no call made.
func jobs() []appoint.Job {
	l := []appoint.Job{{}}
	s := sums()
	for i, n := range rightNumbers {
		for j, size := range []int{0, 1, 16, 127, 128, 1000, 16384} {
			l = append(l, appoint.Job{Channel: n, State: rightNumbers[(i+j)%len(rightNumbers)], Hint: s[(i+j)%len(s)], Blob: noise(size)})
		}
	}
	return l
}

// oddJobs are jobs of numbers that may not be.
func oddJobs() []appoint.Job {
	var l []appoint.Job
	for _, n := range wrongNumbers {
		l = append(l,
			appoint.Job{Channel: n, State: 3, Hint: full(), Blob: noise(20)},
			appoint.Job{Channel: 2, State: n, Hint: risingSum(), Blob: noise(20)},
			appoint.Job{Channel: n, State: n})
	}
	return l
}

// isJob tells whether two jobs are alike, whereby nil and no bytes are the same.
func isJob(a, b appoint.Job) bool {
	return a.Channel == b.Channel && a.State == b.State && a.Hint == b.Hint && bytes.Equal(a.Blob, b.Blob)
}

// isMade holds what Make answers against the job that it must be.
func isMade(t *testing.T, channel, state int, commit api.Sum, x api.Tx) {
	t.Helper()
	handed := copied(x)
	want := appoint.Job{Channel: channel, State: state, Hint: hintOf(commit), Blob: closed(keyOf(commit), packed(x))}
	got, e := appoint.Make(channel, state, commit, x)
	if e != api.OK || !isJob(got, want) {
		t.Errorf("of %d and %d: a job of %d and %d, the hint %x, %d bytes, %v", channel, state, got.Channel, got.State, got.Hint[:4], len(got.Blob), e)
	}
	if !reflect.DeepEqual(x, handed) {
		t.Errorf("what was handed in has changed: %+v", x)
	}
}

// isNoJob holds what Make answers against an error, and nothing.
func isNoJob(t *testing.T, channel, state int, commit api.Sum, x api.Tx, want api.Errno) {
	t.Helper()
	got, e := appoint.Make(channel, state, commit, x)
	if e != want || !isJob(got, appoint.Job{}) {
		t.Errorf("of %d and %d: a job of %d and %d, %d bytes, %v, want %v", channel, state, got.Channel, got.State, len(got.Blob), e, want)
	}
}

func Test16_2MakeIsTheJob(t *testing.T) {
	for _, channel := range rightNumbers {
		for _, state := range rightNumbers {
			for _, commit := range sums() {
				isMade(t, channel, state, commit, rich())
			}
		}
	}
	for _, x := range rightTxs() {
		isMade(t, 1, 2, risingSum(), x)
		isMade(t, topNumber, 0, full(), x)
	}
	isMade(t, 1, 2, full(), ofLength(t, topText, rich()))
}

func Test16_2MakeOfWrongNumbers(t *testing.T) {
	for _, n := range wrongNumbers {
		for _, m := range append(slices.Clone(wrongNumbers), rightNumbers...) {
			isNoJob(t, n, m, risingSum(), rich(), api.ErrArg)
			isNoJob(t, m, n, full(), least(), api.ErrArg)
		}
	}
}

func Test16_2TheStateBelow0IsNotMade(t *testing.T) {
	isNoJob(t, 1, -1, risingSum(), rich(), api.ErrArg)
	isMade(t, 1, 0, risingSum(), rich())
}

func Test16_2MakeOfWhatIsNotCovered(t *testing.T) {
	for _, x := range wrongTxs() {
		isNoJob(t, 1, 2, risingSum(), x, api.ErrArg)
	}
	for _, n := range []int{topText + 1, topText + 2, topText + 16} {
		isNoJob(t, 1, 2, risingSum(), ofLength(t, n, rich()), api.ErrLong)
	}
	isNoJob(t, 0, topNumber, api.Sum{}, long(topText), api.ErrLong)
}

// Numbers are asked for ahead of what is covered.
func Test16_2MakeAnswersTheFirstError(t *testing.T) {
	for _, n := range wrongNumbers {
		isNoJob(t, n, 1, full(), long(topText), api.ErrArg)
		isNoJob(t, 1, n, full(), long(topText), api.ErrArg)
	}
}

func Test16_2AJobIsNewMemory(t *testing.T) {
	x := rich()
	first, _ := appoint.Make(1, 2, full(), x)
	second, _ := appoint.Make(1, 2, full(), x)
	want := closed(keyOf(full()), packed(rich()))
	spoil(x)
	if !bytes.Equal(first.Blob, want) {
		t.Error("the transaction was kept")
	}
	clear(first.Blob)
	if !bytes.Equal(second.Blob, want) {
		t.Error("two jobs share memory")
	}
}

func Test16_2Receipt(t *testing.T) {
	for _, j := range append(jobs(), oddJobs()...) {
		for _, tower := range towers {
			want := api.Receipt{Tower: tower, Channel: j.Channel, State: j.State, Hint: j.Hint, Blob: markOf(j.Blob)}
			if got := j.Receipt(tower); got != want {
				t.Errorf("the receipt of %d for %d and %d is %+v", tower, j.Channel, j.State, got)
			}
		}
	}
	for _, n := range []int{topText, topText + 1, topBlob, topBlob + 1, 1 << 20} {
		if got := (appoint.Job{Blob: noise(n)}).Receipt(3); got != (api.Receipt{Tower: 3, Blob: markOf(noise(n))}) {
			t.Errorf("the receipt for %d bytes is %+v", n, got)
		}
	}
}

func Test16_2ReceiptOfWhatIsMade(t *testing.T) {
	j, e := appoint.Make(4, 300, risingSum(), rich())
	want := api.Receipt{Tower: 9, Channel: 4, State: 300, Hint: hintOf(risingSum()), Blob: markOf(closed(keyOf(risingSum()), packed(rich())))}
	if got := j.Receipt(9); e != api.OK || got != want {
		t.Errorf("the receipt is %+v, want %+v", got, want)
	}
	if hex.EncodeToString(want.Blob[:]) != "752f337575f0f1cffb16634e9d16eddb87287baa70558bdc10a48afd4fe4d662" {
		t.Errorf("the blob's mark is %x", want.Blob)
	}
}

func Test16_2FitsEachTower(t *testing.T) {
	for _, j := range append(jobs(), oddJobs()...) {
		for _, tower := range towers {
			r := api.Receipt{Tower: tower, Channel: j.Channel, State: j.State, Hint: j.Hint, Blob: markOf(j.Blob)}
			if !j.Fits(r) || !j.Fits(j.Receipt(tower)) {
				t.Errorf("the receipt of %d does not fit the job of %d and %d", tower, j.Channel, j.State)
			}
		}
	}
}

// fields change one field each of a receipt, but for its tower.
func fields() []func(r *api.Receipt) {
	l := []func(r *api.Receipt){
		func(r *api.Receipt) { r.Channel++ },
		func(r *api.Receipt) { r.Channel-- },
		func(r *api.Receipt) { r.Channel += 1 << 32 },
		func(r *api.Receipt) { r.State++ },
		func(r *api.Receipt) { r.State-- },
		func(r *api.Receipt) { r.State += 1 << 32 },
		func(r *api.Receipt) { r.Hint = api.Sum{} },
		func(r *api.Receipt) { r.Blob = api.Sum{} },
		func(r *api.Receipt) { r.Hint, r.Blob = r.Blob, r.Hint },
		func(r *api.Receipt) { r.Channel, r.State = r.State, r.Channel },
	}
	for i := range 256 {
		l = append(l,
			func(r *api.Receipt) { r.Hint[i/8] ^= 1 << (i % 8) },
			func(r *api.Receipt) { r.Blob[i/8] ^= 1 << (i % 8) })
	}
	return l
}

func Test16_2EachFieldOfAReceiptCounts(t *testing.T) {
	j := appoint.Job{Channel: 4, State: 300, Hint: risingSum(), Blob: noise(60)}
	for i, change := range fields() {
		for _, tower := range []int{0, 3, 15} {
			r := j.Receipt(tower)
			change(&r)
			if j.Fits(r) {
				t.Errorf("field %d: %+v fits", i, r)
			}
		}
	}
	if j.Fits(api.Receipt{}) || (appoint.Job{}).Fits(api.Receipt{}) {
		t.Error("nothing fits")
	}
}

func Test16_2EachFieldOfAJobCounts(t *testing.T) {
	j := appoint.Job{Channel: 4, State: 300, Hint: risingSum(), Blob: noise(60)}
	r := j.Receipt(3)
	for i, other := range []appoint.Job{
		{},
		{Channel: 5, State: 300, Hint: risingSum(), Blob: noise(60)},
		{Channel: 4, State: 299, Hint: risingSum(), Blob: noise(60)},
		{Channel: 4, State: 300, Hint: full(), Blob: noise(60)},
		{Channel: 4, State: 300, Hint: risingSum(), Blob: noise(59)},
		{Channel: 4, State: 300, Hint: risingSum(), Blob: append(noise(60), 0)},
		{Channel: 4, State: 300, Hint: risingSum(), Blob: noise(61)[1:]},
		{Channel: 4, State: 300, Hint: risingSum()},
		{Channel: 300, State: 4, Hint: risingSum(), Blob: noise(60)},
	} {
		if other.Fits(r) {
			t.Errorf("job %d fits", i)
		}
	}
	if !j.Fits(r) {
		t.Error("the job itself does not fit")
	}
}

// The number below 0 is no 0, though both are written alike.
func Test16_2FitsComparesNumbersAsTheyAre(t *testing.T) {
	j := appoint.Job{Channel: -1, State: -1, Blob: noise(5)}
	r := j.Receipt(2)
	r.Channel, r.State = 0, 0
	if j.Fits(r) || (appoint.Job{Blob: noise(5)}).Fits(j.Receipt(2)) {
		t.Error("-1 is taken as 0")
	}
}

// A method has a job of its own: what is done to its fields stays there, and the blob is not written.
func Test16_2MethodsChangeNothing(t *testing.T) {
	room := noise(100)
	j := appoint.Job{Channel: 4, State: 300, Hint: risingSum(), Blob: room[:60]}
	j.Fits(j.Receipt(3))
	j.Put()
	if !isJob(j, appoint.Job{Channel: 4, State: 300, Hint: risingSum(), Blob: noise(60)}) || !bytes.Equal(room, noise(100)) {
		t.Errorf("the job has changed: %+v", j)
	}
}

// putOf are a job's bytes.
func putOf(j appoint.Job) []byte {
	return slices.Concat(num(j.Channel), num(j.State), j.Hint[:], asText(j.Blob))
}

// isGot holds what Get answers against the job that it must be.
func isGot(t *testing.T, b []byte, want appoint.Job) {
	t.Helper()
	got, e := appoint.Get(b)
	if e != api.OK || !isJob(got, want) {
		t.Errorf("%d bytes are read as a job of %d and %d, %d bytes, %v", len(b), got.Channel, got.State, len(got.Blob), e)
	}
}

// isUngot holds what Get answers against an error, and nothing.
func isUngot(t *testing.T, what string, b []byte, want api.Errno) {
	t.Helper()
	got, e := appoint.Get(b)
	if e != want || !isJob(got, appoint.Job{}) {
		t.Errorf("%s, %d bytes, is read as a job of %d and %d, %d bytes, %v, want %v", what, len(b), got.Channel, got.State, len(got.Blob), e, want)
	}
}

func Test16_3PutIsItsBytes(t *testing.T) {
	for _, j := range append(jobs(), oddJobs()...) {
		if got := j.Put(); !bytes.Equal(got, putOf(j)) {
			t.Errorf("the bytes of the job of %d and %d are %x", j.Channel, j.State, got)
		}
	}
	for _, n := range []int{topText - 1, topText, topText + 1, topBlob, 1 << 20} {
		j := appoint.Job{Channel: 1, State: 2, Blob: noise(n)}
		if got := j.Put(); !bytes.Equal(got, putOf(j)) {
			t.Errorf("with %d bytes of a blob, the bytes are %d others", n, len(got))
		}
	}
	if got := (appoint.Job{}).Put(); !bytes.Equal(got, make([]byte, 35)) {
		t.Errorf("the bytes of nothing are %x", got)
	}
}

// These bytes come of the document's words in another language.
func Test16_3KnownJobs(t *testing.T) {
	for _, k := range []struct {
		channel int
		commit  api.Sum
		x       api.Tx
		want    string
	}{
		{0, api.Sum{}, least(), "6be9c5225407d5fb0679069b3dedc9f9da481077ca1d21bc3cb4a9c218bfa1df"},
		{300, full(), rich(), "95f285bf0de5b10d7d298bd54a228b85bd2d78c0b35f913644185d443a244984"},
		{600, risingSum(), long(65000), "fbf6d16ad4108c08fbad06081499884dd6f67294b1c1756a4029cebe57261165"},
	} {
		j, e := appoint.Make(k.channel, topNumber, k.commit, k.x)
		if got := hexOf(j.Put()); e != api.OK || got != k.want {
			t.Errorf("the job of %d is summed to %s, %v", k.channel, got, e)
		}
		isGot(t, j.Put(), j)
	}
}

func Test16_3GetIsTheJobWhoseBytesTheyAre(t *testing.T) {
	for _, j := range jobs() {
		isGot(t, putOf(j), j)
	}
	for _, n := range []int{topText - 1, topText} {
		j := appoint.Job{Channel: topNumber, State: topNumber, Hint: full(), Blob: noise(n)}
		isGot(t, putOf(j), j)
	}
}

func Test16_3GetOfNumbersAboveWhatMayBe(t *testing.T) {
	tail := append(noise(32), 0)
	for _, n := range []int{topNumber + 1, topNumber + 2, 2 * topNumber, 1 << 32, 1<<32 + 5, math.MaxInt} {
		isUngot(t, "a channel", slices.Concat(num(n), num(1), tail), api.ErrRange)
		isUngot(t, "a channel alone", num(n), api.ErrRange)
		isUngot(t, "a state", slices.Concat(num(1), num(n), tail), api.ErrRange)
		isUngot(t, "a state, and nothing behind", slices.Concat(num(1), num(n)), api.ErrRange)
	}
}

// What is read has texts of 65536 bytes at most, though more can be covered, and put.
func Test16_3GetOfTooLongTexts(t *testing.T) {
	front := slices.Concat(num(1), num(2), noise(32))
	for _, n := range []int{topText + 1, topText + 2, topBlob - 1, topBlob, topBlob + 1, 2 * topText} {
		isUngot(t, "a whole text", slices.Concat(front, asText(noise(n))), api.ErrRange)
	}
	for _, n := range []int{topText + 1, 1 << 32, math.MaxInt} {
		isUngot(t, "a text's front", slices.Concat(front, num(n)), api.ErrRange)
	}
	j, e := appoint.Make(1, 2, full(), ofLength(t, topText-16, rich()))
	if e != api.OK || len(j.Blob) != topText {
		t.Fatal(len(j.Blob), e)
	}
	isGot(t, j.Put(), j)
	j, e = appoint.Make(1, 2, full(), ofLength(t, topText-15, rich()))
	if e != api.OK || len(j.Blob) != topText+1 {
		t.Fatal(len(j.Blob), e)
	}
	isUngot(t, "one byte more", j.Put(), api.ErrRange)
}

func Test16_3GetOfEachCut(t *testing.T) {
	isUngot(t, "nothing", nil, api.ErrShort)
	isUngot(t, "nothing", []byte{}, api.ErrShort)
	for _, j := range jobs() {
		b := putOf(j)
		for n := range min(len(b), 300) {
			isUngot(t, "a cut", b[:n], api.ErrShort)
			isUngot(t, "a cut", b[:len(b)-1-n], api.ErrShort)
		}
	}
}

func Test16_3GetOfTooMuch(t *testing.T) {
	for _, j := range jobs() {
		for _, more := range [][]byte{{0}, {1}, {0xff}, noise(40), make([]byte, topText)} {
			isUngot(t, "too much", append(putOf(j), more...), api.ErrLong)
		}
	}
	j := appoint.Job{Blob: noise(topText)}
	isUngot(t, "too much behind a long text", append(putOf(j), 7), api.ErrLong)
}

func Test16_3GetOfOtherForms(t *testing.T) {
	tail := append(noise(32), 2, 7, 7)
	isGot(t, slices.Concat([]byte{1, 2}, tail), appoint.Job{Channel: 1, State: 2, Hint: api.Sum(noise(32)), Blob: []byte{7, 7}})
	for _, c := range []struct {
		what string
		b    []byte
		want api.Errno
	}{
		{"a channel of two bytes", slices.Concat([]byte{0x81, 0, 2}, tail), api.ErrForm},
		{"a channel of 0 in two bytes", slices.Concat([]byte{0x80, 0, 2}, tail), api.ErrForm},
		{"a state of three bytes", slices.Concat([]byte{1, 0x82, 0x80, 0}, tail), api.ErrForm},
		{"a text's length of two bytes", slices.Concat([]byte{1, 2}, noise(32), []byte{0x82, 0, 7, 7}), api.ErrForm},
		{"an empty text's length of two bytes", slices.Concat([]byte{1, 2}, noise(32), []byte{0x80, 0}), api.ErrForm},
		{"nine bytes of a channel", bytes.Repeat([]byte{0xff}, 9), api.ErrRange},
		{"nine bytes of a state", append([]byte{1}, bytes.Repeat([]byte{0x80}, 9)...), api.ErrRange},
		{"nine bytes of a text's length", slices.Concat([]byte{1, 2}, noise(32), bytes.Repeat([]byte{0xff}, 9)), api.ErrRange},
	} {
		isUngot(t, c.what, c.b, c.want)
	}
}

// The first error of what is read stays, whatever stands behind it.
func Test16_3GetAnswersTheFirstError(t *testing.T) {
	for _, c := range []struct {
		what string
		b    []byte
		want api.Errno
	}{
		{"a channel above, a state of another form", slices.Concat(num(topNumber+1), []byte{0x80, 0}, noise(300)), api.ErrRange},
		{"a channel of another form, a state above", slices.Concat([]byte{0x80, 0}, num(topNumber+1), noise(300)), api.ErrForm},
		{"a state above, and bytes lack", slices.Concat(num(1), num(topNumber+1), noise(3)), api.ErrRange},
		{"bytes of the hint lack", slices.Concat(num(1), num(2), noise(31)), api.ErrShort},
		{"a text that is too long, and something left", slices.Concat(num(1), num(2), noise(32), num(topText+1), noise(topText+5)), api.ErrRange},
		{"a text that lacks bytes", slices.Concat(num(1), num(2), noise(32), num(5), noise(4)), api.ErrShort},
		{"a long text that lacks a byte", slices.Concat(num(1), num(2), noise(32), num(topText), noise(topText-1)), api.ErrShort},
	} {
		isUngot(t, c.what, c.b, c.want)
	}
}

func Test16_3NilAndEmptyAreTheSame(t *testing.T) {
	first, second := appoint.Job{Channel: 5}, appoint.Job{Channel: 5, Blob: []byte{}}
	if !bytes.Equal(first.Put(), second.Put()) || first.Receipt(1) != second.Receipt(1) || !first.Fits(second.Receipt(1)) {
		t.Error("a job without a blob is another one than that of an empty one")
	}
	isGot(t, first.Put(), second)
}

func Test16_3AnswersAreNewMemory(t *testing.T) {
	j := appoint.Job{Channel: 4, State: 300, Hint: risingSum(), Blob: noise(60)}
	first, second := j.Put(), j.Put()
	clear(j.Blob)
	if !bytes.Equal(first, second) || !bytes.Equal(first[len(first)-60:], noise(60)) {
		t.Error("the blob was kept")
	}
	room := append(slices.Clone(first), noise(40)...)
	want := slices.Clone(room)
	got, _ := appoint.Get(room[:len(first)])
	again, _ := appoint.Get(room[:len(first)])
	if !bytes.Equal(room, want) {
		t.Error("what was handed in has changed")
	}
	clear(room)
	clear(first)
	if !bytes.Equal(got.Blob, noise(60)) || !bytes.Equal(second, putOf(again)) {
		t.Error("what was handed in was kept")
	}
	clear(got.Blob)
	_ = append(got.Blob, 1, 2, 3)
	if !bytes.Equal(again.Blob, noise(60)) {
		t.Error("two jobs share memory")
	}
}

func Test16_3GetOfBytesThatNoCallMade(t *testing.T) {
	for n := range 300 {
		for _, b := range [][]byte{noise(n), make([]byte, n), bytes.Repeat([]byte{0xff}, n), noise(n + 9)[9:]} {
			j, e := appoint.Get(b)
			if e == api.OK && !bytes.Equal(j.Put(), b) {
				t.Errorf("%x is read as what has other bytes", b)
			}
			if e != api.OK && !isJob(j, appoint.Job{}) {
				t.Error(fmt.Sprint(n, " bytes: beside ", e, " there is a job"))
			}
		}
	}
}
