package wire_test

import (
	"bytes"
	"math"
	"strings"
	"testing"

	"bartizan/api"
	"bartizan/wire"
)

func look(s string) *wire.Eye {
	return wire.Look([]byte(s))
}

// isLeft takes what an eye has left, and holds it against what must be.
func isLeft(t *testing.T, y *wire.Eye, want string) {
	t.Helper()
	if got := y.Raw(len(want)); string(got) != want || y.Done() != api.OK {
		t.Errorf("left is %x, error %d, want %x", got, y.Err(), want)
	}
}

func isFailed(t *testing.T, y *wire.Eye, want api.Errno) {
	t.Helper()
	if y.Err() != want {
		t.Errorf("error %d, want %d", y.Err(), want)
	}
}

func Test1_2NumbersAreRead(t *testing.T) {
	for s, want := range map[string]int{
		"\x00":             0,
		"\x01":             1,
		"\x7f":             127,
		"\x80\x01":         128,
		"\xac\x02":         300,
		"\x80\x80\x01":     1 << 14,
		high(8) + "\x01":   1 << 56,
		full(8) + "\x7f":   math.MaxInt,
		high(7) + "\x02":   api.MaxAmount,
		"\x80\xff\x80\x01": 1<<21 + 127<<7,
	} {
		for _, behind := range []string{"", "\x00", "\xff", "more"} {
			y := look(s + behind)
			if n := y.Num(); n != want {
				t.Errorf("%x is read as %d, want %d", s, n, want)
			}
			isLeft(t, y, behind)
		}
	}
}

// noNumbers are bytes that no number begins, and what is wrong with them.
func noNumbers() map[string]api.Errno {
	return map[string]api.Errno{
		"":                        api.ErrShort,
		"\x80":                    api.ErrShort,
		"\xff":                    api.ErrShort,
		high(8):                   api.ErrShort,
		full(8):                   api.ErrShort,
		"\x80\x00":                api.ErrForm,
		"\x80\x00\x01":            api.ErrForm,
		"\xff\x00":                api.ErrForm,
		"\xff\x80\x00":            api.ErrForm,
		high(8) + "\x00":          api.ErrForm,
		full(8) + "\x00":          api.ErrForm,
		high(9):                   api.ErrRange,
		full(9):                   api.ErrRange,
		high(9) + "\x00":          api.ErrRange,
		full(9) + "\x01":          api.ErrRange,
		full(8) + "\x80":          api.ErrRange,
		full(40):                  api.ErrRange,
		high(40) + "\x01":         api.ErrRange,
		full(8) + "\xff" + "\x7f": api.ErrRange,
	}
}

func Test1_2WhatIsNoNumber(t *testing.T) {
	for s, want := range noNumbers() {
		y := look(s)
		if n := y.Num(); n != 0 {
			t.Errorf("%x is read as %d", s, n)
		}
		isFailed(t, y, want)
		y = look(s)
		if n := y.Upto(math.MaxInt); n != 0 {
			t.Errorf("%x is read as %d", s, n)
		}
		isFailed(t, y, want)
		y = look(s)
		if n := y.Upto(-1); n != 0 {
			t.Errorf("%x is read as %d", s, n)
		}
		isFailed(t, y, want)
		y = look(s)
		if b := y.Text(math.MaxInt); len(b) != 0 {
			t.Errorf("%x is read as %x", s, b)
		}
		isFailed(t, y, want)
	}
}

func Test1_2Upto(t *testing.T) {
	for _, c := range []struct {
		s          string
		most, want int
		e          api.Errno
	}{
		{"\x00", 0, 0, api.OK},
		{"\xac\x02", 300, 300, api.OK},
		{"\xac\x02", 301, 300, api.OK},
		{"\xac\x02", 299, 0, api.ErrRange},
		{"\x01", 0, 0, api.ErrRange},
		{"\x00", -1, 0, api.ErrRange},
		{"\x00", math.MinInt, 0, api.ErrRange},
		{full(8) + "\x7f", math.MaxInt, math.MaxInt, api.OK},
		{full(8) + "\x7f", math.MaxInt - 1, 0, api.ErrRange},
	} {
		y := look(c.s)
		if n := y.Upto(c.most); n != c.want || y.Done() != c.e {
			t.Errorf("%x up to %d is read as %d, error %d, want %d, error %d", c.s, c.most, n, y.Err(), c.want, c.e)
		}
	}
}

func Test1_2Raw(t *testing.T) {
	y := look("abcdef")
	if string(y.Raw(2)) != "ab" || len(y.Raw(0)) != 0 || string(y.Raw(1)) != "c" {
		t.Error("raw bytes are read otherwise")
	}
	isLeft(t, y, "def")
	for _, n := range []int{-1, math.MinInt, 4, math.MaxInt} {
		y := look("abc")
		if b := y.Raw(n); len(b) != 0 {
			t.Errorf("%d bytes of 3 are %q", n, b)
		}
		isFailed(t, y, api.ErrShort)
	}
	y = look("")
	if len(y.Raw(0)) != 0 || y.Done() != api.OK {
		t.Error("no bytes are not there")
	}
}

func Test1_2Text(t *testing.T) {
	long := strings.Repeat("x", 300)
	for _, c := range []struct {
		s    string
		most int
		want string
		e    api.Errno
	}{
		{"\x00", 0, "", api.OK},
		{"\x02hi", 2, "hi", api.OK},
		{"\x02hi", math.MaxInt, "hi", api.OK},
		{"\x02hi", 1, "", api.ErrRange},
		{"\x02h", 1, "", api.ErrRange},
		{"\x02h", 2, "", api.ErrShort},
		{"\x02", 2, "", api.ErrShort},
		{"\x00", -1, "", api.ErrRange},
		{"\xac\x02" + long, 300, long, api.OK},
		{"\xac\x02" + long[1:], 300, "", api.ErrShort},
		{"\xac\x02" + long, 299, "", api.ErrRange},
		{"\x02hi!", 2, "hi", api.ErrLong},
		{full(8) + "\x7f" + "hi", math.MaxInt, "", api.ErrShort},
	} {
		y := look(c.s)
		if b := y.Text(c.most); string(b) != c.want || y.Done() != c.e {
			t.Errorf("%x is read as %q, error %d, want %q, error %d", c.s, b, y.Err(), c.want, c.e)
		}
	}
}

func Test1_2Sum(t *testing.T) {
	s := api.Sum{0: 1, 15: 2, 31: 3}
	y := look(string(s[:]) + "\x04")
	if y.Sum() != s {
		t.Error("a sum is read otherwise")
	}
	isLeft(t, y, "\x04")
	for _, n := range []int{0, 1, 31} {
		y := wire.Look(s[:n])
		if y.Sum() != (api.Sum{}) {
			t.Errorf("of %d bytes a sum is read", n)
		}
		isFailed(t, y, api.ErrShort)
	}
}

func Test1_2LookDoesNotKeepNorChange(t *testing.T) {
	b := []byte("\x03abc\x03def")
	y := wire.Look(b)
	first := y.Text(3)
	clear(first)
	_ = append(first, "zzzz"...)
	if string(b) != "\x03abc\x03def" {
		t.Errorf("what was handed in is now %q", b)
	}
	clear(b)
	if s := y.Text(3); string(s) != "def" {
		t.Errorf("what was handed in was kept: %q", s)
	}
	y = look("\x07\x08")
	first = y.Raw(1)
	_ = append(first, 9)
	if n := y.Num(); n != 8 {
		t.Errorf("%d is read of what somebody wrote behind an answer", n)
	}
}

// isBlind holds that nothing more is read, whatever is asked for, and that the error stays.
func isBlind(t *testing.T, y *wire.Eye, want api.Errno) {
	t.Helper()
	if y.Num() != 0 || y.Upto(9) != 0 || y.Upto(-1) != 0 || len(y.Raw(1)) != 0 || len(y.Raw(0)) != 0 || len(y.Raw(-1)) != 0 || len(y.Text(9)) != 0 || y.Sum() != (api.Sum{}) {
		t.Errorf("something is read behind error %d", want)
	}
	isFailed(t, y, want)
	y.Fail(api.ErrWord)
	isFailed(t, y, want)
	if e := y.Done(); e != want {
		t.Errorf("done with error %d, want %d", e, want)
	}
	isFailed(t, y, want)
}

func Test1_3FirstErrorStays(t *testing.T) {
	behind := strings.Repeat("\x01", 40)
	for want, fail := range map[api.Errno]func(y *wire.Eye){
		api.ErrShort: func(y *wire.Eye) { y.Raw(1000) },
		api.ErrRange: func(y *wire.Eye) { y.Upto(0) },
		api.ErrLong:  func(y *wire.Eye) { y.Done() },
		api.ErrSign:  func(y *wire.Eye) { y.Fail(api.ErrSign) },
		-5:           func(y *wire.Eye) { y.Fail(-5) },
		1000:         func(y *wire.Eye) { y.Fail(1000) },
	} {
		y := look(behind)
		fail(y)
		isBlind(t, y, want)
	}
	for s, want := range noNumbers() {
		y := look(s + behind)
		if s == "" || want == api.ErrShort {
			y = look(s)
		}
		y.Num()
		isBlind(t, y, want)
	}
	y := look("\x02hi" + behind)
	y.Text(1)
	isBlind(t, y, api.ErrRange)
	y = look("\x01")
	y.Sum()
	isBlind(t, y, api.ErrShort)
}

func Test1_3Fail(t *testing.T) {
	y := look("\x05")
	y.Fail(api.OK)
	isFailed(t, y, api.OK)
	if y.Num() != 5 {
		t.Error("no error is taken for one")
	}
	y.Fail(api.ErrGate)
	y.Fail(api.ErrForm)
	y.Fail(api.OK)
	isBlind(t, y, api.ErrGate)
}

func Test1_3Done(t *testing.T) {
	if y := look(""); y.Done() != api.OK || y.Err() != api.OK {
		t.Error("of nothing something is left")
	}
	if y := wire.Look(nil); y.Done() != api.OK || y.Err() != api.OK {
		t.Error("of nothing something is left")
	}
	y := look("\x01\x02")
	isFailed(t, y, api.OK)
	if y.Num() != 1 || y.Done() != api.ErrLong {
		t.Error("what is left is not told")
	}
	isBlind(t, y, api.ErrLong)
	y = look("\x01")
	if y.Num() != 1 || y.Done() != api.OK || y.Done() != api.OK {
		t.Error("nothing is left, and something is told")
	}
	if y.Num() != 0 || y.Err() != api.ErrShort || y.Done() != api.ErrShort {
		t.Error("past the end something is read")
	}
	y = look("abc")
	y.Fail(api.ErrForm)
	if y.Done() != api.ErrForm {
		t.Error("what is left is told ahead of the error")
	}
}

func Test1_3NilEye(t *testing.T) {
	var y *wire.Eye
	isBlind(t, y, api.ErrArg)
	var z wire.Eye
	if z.Done() != api.OK || z.Num() != 0 || z.Err() != api.ErrShort {
		t.Error("an eye that nobody made sees something")
	}
}

// edges are numbers around each power of two.
func edges() []int {
	l := []int{0, math.MaxInt}
	for i := range 63 {
		n := 1 << i
		l = append(l, n-1, n, n+1)
	}
	return l
}

func Test1_4WhatWasWrittenIsRead(t *testing.T) {
	var p wire.Pen
	l := edges()
	p.Nums(l...)
	texts := [][]byte{nil, []byte("a"), bytes.Repeat([]byte{0xff}, 127), bytes.Repeat([]byte{0}, 128), bytes.Repeat([]byte{0x80}, api.MaxData)}
	for i, s := range texts {
		p.Text(s).Num(-i).Sum(api.Sum{byte(i), 31: 0xff})
	}
	y := wire.Look(p.Bytes())
	for _, n := range l {
		if got := y.Num(); got != n {
			t.Errorf("%d is read as %d", n, got)
		}
	}
	for i, s := range texts {
		if got := y.Text(api.MaxData); !bytes.Equal(got, s) {
			t.Errorf("a text of %d bytes is read as one of %d", len(s), len(got))
		}
		if y.Num() != 0 || y.Sum() != (api.Sum{byte(i), 31: 0xff}) {
			t.Errorf("what stands behind text %d is read otherwise", i)
		}
	}
	if y.Done() != api.OK {
		t.Errorf("error %d", y.Err())
	}
}

// eachOf calls f with every text of n letters.
func eachOf(letters string, n int, f func(b []byte)) {
	b := make([]byte, n)
	var put func(at int)
	put = func(at int) {
		if at == n {
			f(b)
			return
		}
		for i := range len(letters) {
			b[at] = letters[i]
			put(at + 1)
		}
	}
	put(0)
}

// isOneForm holds that bytes that are read as a number, or as a text, are just those that are written of it.
func isOneForm(t *testing.T, b []byte) {
	t.Helper()
	y := wire.Look(b)
	if n := y.Num(); y.Done() == api.OK && !bytes.Equal(new(wire.Pen).Num(n).Bytes(), b) {
		t.Errorf("%x is read as the number %d", b, n)
	}
	y = wire.Look(b)
	if s := y.Text(api.MaxData); y.Done() == api.OK && !bytes.Equal(new(wire.Pen).Text(s).Bytes(), b) {
		t.Errorf("%x is read as the text %x", b, s)
	}
}

func Test1_4NoOtherBytesAreReadAsIt(t *testing.T) {
	all := make([]byte, 256)
	for i := range all {
		all[i] = byte(i)
	}
	for n := range 3 {
		eachOf(string(all), n, func(b []byte) { isOneForm(t, b) })
	}
	for n := 3; n <= 11; n++ {
		eachOf("\x00\x7f\x80", n, func(b []byte) { isOneForm(t, b) })
	}
}

func Test1_4WhatIsCutShortIsNotRead(t *testing.T) {
	for _, n := range edges() {
		b := new(wire.Pen).Num(n).Bytes()
		for i := range b {
			y := wire.Look(b[:i])
			if y.Num() != 0 || y.Err() != api.ErrShort {
				t.Errorf("%d bytes of %x are read", i, b)
			}
		}
	}
}
