package wire_test

import (
	"bytes"
	"math"
	"strings"
	"testing"

	"bartizan/api"
	"bartizan/wire"
)

// high is n bytes that have their highest bit and no other one.
func high(n int) string {
	return strings.Repeat("\x80", n)
}

// full is n bytes that have all their bits.
func full(n int) string {
	return strings.Repeat("\xff", n)
}

func isWritten(t *testing.T, p *wire.Pen, want string) {
	t.Helper()
	if got := p.Bytes(); string(got) != want {
		t.Errorf("written %x, want %x", got, want)
	}
}

func Test1_1NumbersAreSevenBitsAByte(t *testing.T) {
	for n, want := range map[int]string{
		0:             "\x00",
		1:             "\x01",
		127:           "\x7f",
		128:           "\x80\x01",
		300:           "\xac\x02",
		1<<14 - 1:     "\xff\x7f",
		1 << 14:       "\x80\x80\x01",
		1<<56 - 1:     full(7) + "\x7f",
		1 << 56:       high(8) + "\x01",
		math.MaxInt:   full(8) + "\x7f",
		-1:            "\x00",
		-300:          "\x00",
		math.MinInt:   "\x00",
		api.MaxAmount: high(7) + "\x02",
	} {
		isWritten(t, new(wire.Pen).Num(n), want)
		isWritten(t, new(wire.Pen).Nums(n), want)
	}
}

func Test1_1NumsStandOneBehindTheOther(t *testing.T) {
	isWritten(t, new(wire.Pen).Nums(), "")
	isWritten(t, new(wire.Pen).Nums(1, 128, -7, 0, 300), "\x01\x80\x01\x00\x00\xac\x02")
	l := []int{-1, 300}
	isWritten(t, new(wire.Pen).Nums(l...), "\x00\xac\x02")
	if l[0] != -1 || l[1] != 300 {
		t.Errorf("a list that was handed in is now %v", l)
	}
}

func Test1_1TextsAndSums(t *testing.T) {
	isWritten(t, new(wire.Pen).Text(nil), "\x00")
	isWritten(t, new(wire.Pen).Text([]byte{}), "\x00")
	isWritten(t, new(wire.Pen).Text([]byte("hi")), "\x02hi")
	long := strings.Repeat("x", 300)
	isWritten(t, new(wire.Pen).Text([]byte(long)), "\xac\x02"+long)
	isWritten(t, new(wire.Pen).Sum(api.Sum{}), strings.Repeat("\x00", 32))
	isWritten(t, new(wire.Pen).Sum(api.Sum{0: 1, 31: 2}), "\x01"+strings.Repeat("\x00", 30)+"\x02")
}

func Test1_1AllStandsBehindWhatWasWritten(t *testing.T) {
	var p wire.Pen
	isWritten(t, &p, "")
	p.Num(5)
	isWritten(t, &p, "\x05")
	p.Text([]byte("a"))
	isWritten(t, &p, "\x05\x01a")
	p.Sum(api.Sum{9})
	p.Nums(7, 8)
	isWritten(t, &p, "\x05\x01a\x09"+strings.Repeat("\x00", 31)+"\x07\x08")
	isWritten(t, &p, "\x05\x01a\x09"+strings.Repeat("\x00", 31)+"\x07\x08")
}

func Test1_1AnswerIsTheVeryPen(t *testing.T) {
	var p wire.Pen
	if p.Num(1) != &p || p.Nums(1, 2) != &p || p.Nums() != &p || p.Text([]byte("a")) != &p || p.Sum(api.Sum{}) != &p {
		t.Error("another pen is answered")
	}
}

func Test1_1NilPen(t *testing.T) {
	var p *wire.Pen
	if p.Num(1) != nil || p.Nums(1, 2) != nil || p.Nums() != nil || p.Text([]byte("a")) != nil || p.Sum(api.Sum{1}) != nil {
		t.Error("of a nil pen a pen is answered")
	}
	if len(p.Bytes()) != 0 {
		t.Error("a nil pen has written something")
	}
}

func Test1_1BytesAreNewMemory(t *testing.T) {
	text := []byte("abc")
	p := new(wire.Pen).Text(text)
	text[0] = 'x'
	first := p.Bytes()
	if string(first) != "\x03abc" {
		t.Fatalf("a text that was handed in was kept: %q", first)
	}
	clear(first)
	_ = append(first[:0], "zzzz"...)
	isWritten(t, p, "\x03abc")
	first = p.Bytes()
	_ = append(first, 'z')
	p.Num(1)
	if string(first) != "\x03abc" {
		t.Errorf("what was answered has changed: %q", first)
	}
	isWritten(t, p, "\x03abc\x01")
}

func Test1_1CopiedPensGoOnByThemselves(t *testing.T) {
	for n := range 40 {
		var p wire.Pen
		for i := range n {
			p.Num(i)
		}
		want := string(p.Bytes())
		q := p
		p.Nums(1, 2)
		q.Nums(3, 4)
		r := q
		q = p
		r.Num(5)
		q.Num(6)
		p.Num(7)
		isWritten(t, &p, want+"\x01\x02\x07")
		isWritten(t, &q, want+"\x01\x02\x06")
		isWritten(t, &r, want+"\x03\x04\x05")
	}
}

func Test1_1LongWriting(t *testing.T) {
	var p wire.Pen
	var want bytes.Buffer
	for i := range 1 << 16 {
		p.Num(i % 128)
		want.WriteByte(byte(i % 128))
	}
	if !bytes.Equal(p.Bytes(), want.Bytes()) {
		t.Error("some of many numbers stand otherwise")
	}
}
