package lock_test

import (
	"bytes"
	"math"
	"slices"
	"strings"
	"testing"

	"bartizan/api"
	"bartizan/lock"
	"bartizan/wire"
)

// number is a number's bytes, those below 0 as 0.
func number(n int) []byte {
	var b []byte
	rest := max(n, 0)
	for ; rest >= 128; rest /= 128 {
		b = append(b, byte(rest%128+128))
	}
	return append(b, byte(rest))
}

// packed is an out's bytes.
func packed(o api.Out) []byte {
	b := slices.Concat(number(int(o.Amount)), number(len(o.Ways)))
	for _, w := range o.Ways {
		b = append(b, number(len(w.Keys))...)
		for _, key := range w.Keys {
			b = append(b, number(key)...)
		}
		b = append(b, w.Hash[:]...)
		b = append(b, number(w.After)...)
		b = append(b, number(w.Wait)...)
	}
	return b
}

func put(o api.Out) []byte {
	var p wire.Pen
	lock.Put(&p, o)
	return p.Bytes()
}

// isRead holds that bytes are read as an out, and what stands behind it.
func isRead(t *testing.T, b []byte, want api.Out) {
	t.Helper()
	const behind = "\x05more"
	y := wire.Look(append(slices.Clone(b), behind...))
	got := lock.Get(y)
	if y.Err() != api.OK || !lock.Same(got, want) || !bytes.Equal(packed(got), packed(want)) {
		t.Errorf("%x is read as %v, error %d, want %v", b, got, y.Err(), want)
	}
	if left := y.Raw(len(behind)); string(left) != behind || y.Done() != api.OK {
		t.Errorf("behind %x stands %q", b, left)
	}
}

// isRefused holds that bytes are read as no out, by that error.
func isRefused(t *testing.T, b []byte, want api.Errno) {
	t.Helper()
	y := wire.Look(b)
	if got := lock.Get(y); got.Amount != 0 || len(got.Ways) != 0 {
		t.Errorf("%x is read as %v", b, got)
	}
	if y.Err() != want {
		t.Errorf("%x is read with error %d, want %d", b, y.Err(), want)
	}
	if y.Num() != 0 || y.Err() != want || y.Done() != want {
		t.Errorf("behind error %d of %x something is read, error %d", want, b, y.Err())
	}
}

// zeros is n bytes of zero.
func zeros(n int) string {
	return strings.Repeat("\x00", n)
}

func Test7_3PutByHand(t *testing.T) {
	for _, c := range []struct {
		o    api.Out
		want string
	}{
		{lock.To(7, 300), "\xac\x02" + "\x01" + "\x01\x07" + zeros(32) + "\x00\x00"},
		{lock.To(200, 0), "\x00" + "\x01" + "\x01\xc8\x01" + zeros(32) + "\x00\x00"},
		{api.Out{Amount: 1, Ways: []api.Way{{}}}, "\x01\x01" + "\x00" + zeros(32) + "\x00\x00"},
		{
			api.Out{Amount: topAmount, Ways: []api.Way{{Keys: []int{1, 255}, Hash: api.Sum{0: 9, 31: 8}, After: 128, Wait: 2}, {After: 3, Wait: topHeight}}},
			strings.Repeat("\x80", 7) + "\x02" + "\x02" +
				"\x02\x01\xff\x01" + "\x09" + zeros(30) + "\x08" + "\x80\x01" + "\x02" +
				"\x00" + zeros(32) + "\x03" + "\x80\x80\x80\x80\x04",
		},
		{api.Out{}, "\x00\x00"},
	} {
		if got := put(c.o); string(got) != c.want {
			t.Errorf("%v is written %x, want %x", c.o, got, c.want)
		}
	}
}

// What may not be is written too: its numbers below 0 as 0.
func Test7_3Put(t *testing.T) {
	for _, o := range slices.Concat(rightOuts(), wrongOuts(), unlike()) {
		if got, want := put(o), packed(o); !bytes.Equal(got, want) {
			t.Errorf("%v is written %x, want %x", o, got, want)
		}
	}
}

func Test7_3PutStandsBehind(t *testing.T) {
	var p wire.Pen
	p.Num(300)
	a, b := lock.To(1, 5), rightOuts()[1]
	lock.Put(&p, a)
	lock.Put(&p, b)
	p.Num(7)
	want := slices.Concat(number(300), packed(a), packed(b), number(7))
	if !bytes.Equal(p.Bytes(), want) {
		t.Errorf("written %x, want %x", p.Bytes(), want)
	}
}

func Test7_3PutOfANilPen(t *testing.T) {
	var p *wire.Pen
	lock.Put(p, lock.To(1, 5))
	if len(p.Bytes()) != 0 {
		t.Error("a nil pen has written")
	}
}

func Test7_3PutDoesNotChange(t *testing.T) {
	for i, o := range rightOuts() {
		put(o)
		if !lock.Same(o, rightOuts()[i]) {
			t.Errorf("what was handed in is now %v", o)
		}
	}
}

func Test7_3GetTakesOneOut(t *testing.T) {
	y := wire.Look(slices.Concat(packed(lock.To(1, 5)), packed(rightOuts()[1]), packed(lock.To(2, 6))))
	for _, want := range []api.Out{lock.To(1, 5), rightOuts()[1], lock.To(2, 6)} {
		if got := lock.Get(y); !lock.Same(got, want) {
			t.Errorf("read %v, want %v", got, want)
		}
	}
	if y.Done() != api.OK {
		t.Errorf("error %d", y.Err())
	}
}

func Test7_3NumbersAboveWhatMayBe(t *testing.T) {
	way := "\x01\x07" + zeros(34)
	for _, b := range []string{
		"\x81\x80\x80\x80\x80\x80\x80\x02" + "\x01" + way,
		string(number(math.MaxInt)) + "\x01" + way,
		strings.Repeat("\xff", 9) + "\x01" + way,
		"\x05" + "\x11" + strings.Repeat(way, 17),
		"\x05" + string(number(math.MaxInt)) + way,
		"\x05\x01" + "\x11" + "\x00\x01\x02\x03\x04\x05\x06\x07\x08\x09\x0a\x0b\x0c\x0d\x0e\x0f\x10" + zeros(34),
		"\x05\x01" + string(number(math.MaxInt)) + "\x07" + zeros(34),
		"\x05\x01" + "\x01\x80\x02" + zeros(34),
		"\x05\x01" + "\x01" + string(number(math.MaxInt)) + zeros(34),
		"\x05\x01" + "\x02\x01\x80\x02" + zeros(34),
		"\x05\x01" + "\x01\x07" + zeros(32) + "\x81\x80\x80\x80\x04" + "\x00",
		"\x05\x01" + "\x01\x07" + zeros(32) + "\x00" + "\x81\x80\x80\x80\x04",
		"\x05\x02" + way + "\x01\x07" + zeros(32) + "\x00" + "\x81\x80\x80\x80\x04",
		"\x05\x02" + way + "\x11" + way,
		// the first error is that of the number, whatever is wrong behind it
		"\x05" + "\x11",
		"\x05\x01" + "\x11",
		"\x05\x01" + "\x03\x05\x05\x80\x02" + zeros(34),
		"\x05\x01" + "\x02\x80\x02\x01" + zeros(34),
		"\x05\x01" + "\x01\x80\x02",
		"\x05\x02" + "\x02\x06\x05" + zeros(34) + "\x11",
	} {
		isRefused(t, []byte(b), api.ErrRange)
	}
}

func Test7_3OutsThatMayNotBe(t *testing.T) {
	for _, b := range []string{
		"\x05\x00",
		"\x00\x00",
		"\x05\x00" + "\x01\x07" + zeros(34),
		"\x05\x01" + "\x02\x05\x05" + zeros(34),
		"\x05\x01" + "\x02\x00\x00" + zeros(34),
		"\x05\x01" + "\x02\x06\x05" + zeros(34),
		"\x05\x01" + "\x03\x01\x03\x02" + zeros(34),
		"\x05\x01" + "\x10" + strings.Repeat("\x07", 16) + zeros(34),
		"\x05\x02" + "\x02\x06\x05" + zeros(34) + "\x00" + zeros(34),
		"\x05\x02" + "\x00" + zeros(34) + "\x02\x06\x05" + zeros(34),
		"\x05\x01" + "\x02\x06\x05" + zeros(34) + "and more",
	} {
		isRefused(t, []byte(b), api.ErrForm)
	}
}

// Each out that may not be, written, is refused: by ErrRange where a number that is above was written, else by ErrForm, unless what was below 0 became what may be.
func Test7_3WhatMayNotBeIsRefused(t *testing.T) {
	for _, o := range wrongOuts() {
		if above(o) {
			isRefused(t, packed(o), api.ErrRange)
			continue
		}
		if risen := lifted(o); lock.RightOut(risen) {
			isRead(t, packed(o), risen)
			continue
		}
		isRefused(t, packed(o), api.ErrForm)
	}
}

// above tells whether an out has a number that is above what may be.
func above(o api.Out) bool {
	return o.Amount > topAmount || len(o.Ways) > topList || slices.ContainsFunc(o.Ways, func(w api.Way) bool {
		return len(w.Keys) > topList || w.After > topHeight || w.Wait > topHeight || slices.ContainsFunc(w.Keys, func(key int) bool { return key > topKey })
	})
}

// lifted is an out whose numbers below 0 are 0.
func lifted(o api.Out) api.Out {
	o = clone(o)
	o.Amount = max(o.Amount, 0)
	for i := range o.Ways {
		w := &o.Ways[i]
		w.After, w.Wait = max(w.After, 0), max(w.Wait, 0)
		for j := range w.Keys {
			w.Keys[j] = max(w.Keys[j], 0)
		}
	}
	return o
}

func Test7_3BytesThatLack(t *testing.T) {
	for _, o := range rightOuts() {
		b := packed(o)
		for n := range len(b) {
			isRefused(t, b[:n], api.ErrShort)
		}
	}
	// that bytes lack is told ahead of keys that don't rise
	isRefused(t, []byte("\x05\x01"+"\x02\x05\x05"+zeros(33)), api.ErrShort)
	isRefused(t, []byte("\x05\x02"+"\x02\x05\x05"+zeros(34)), api.ErrShort)
}

func Test7_3NumbersInAnotherForm(t *testing.T) {
	for _, b := range []string{
		"\x85\x00\x01" + "\x01\x07" + zeros(34),
		"\x05\x81\x00" + "\x01\x07" + zeros(34),
		"\x05\x01" + "\x81\x00\x07" + zeros(34),
		"\x05\x01" + "\x01\x87\x00" + zeros(34),
		"\x05\x01" + "\x01\x07" + zeros(32) + "\x80\x00" + "\x00",
		"\x05\x01" + "\x01\x07" + zeros(32) + "\x00" + "\x80\x00",
	} {
		isRefused(t, []byte(b), api.ErrForm)
	}
}

func Test7_3TheErrorAheadStays(t *testing.T) {
	for _, b := range []string{string(packed(lock.To(1, 5))), "\x05\x00", "\x05\x11", ""} {
		for _, e := range []api.Errno{api.ErrSign, api.ErrLong, api.ErrWord, -3} {
			y := wire.Look([]byte(b))
			y.Fail(e)
			if got := lock.Get(y); got.Amount != 0 || len(got.Ways) != 0 || y.Err() != e {
				t.Errorf("behind error %d %v is read, error %d", e, got, y.Err())
			}
		}
	}
}

func Test7_3GetOfAnEyeThatSeesNothing(t *testing.T) {
	var y *wire.Eye
	if got := lock.Get(y); got.Amount != 0 || len(got.Ways) != 0 || y.Err() != api.ErrArg {
		t.Errorf("a nil eye reads %v, error %d", got, y.Err())
	}
	y = new(wire.Eye)
	if got := lock.Get(y); got.Amount != 0 || len(got.Ways) != 0 || y.Err() != api.ErrShort {
		t.Errorf("an eye that nobody made reads %v, error %d", got, y.Err())
	}
}

func Test7_3WhatIsReadIsNewMemory(t *testing.T) {
	want := api.Out{Amount: 5, Ways: []api.Way{{Keys: []int{1, 2}}, {Keys: []int{1, 2}}}}
	b := packed(want)
	first, second := lock.Get(wire.Look(b)), lock.Get(wire.Look(b))
	keys := first.Ways[0].Keys
	_ = append(keys, 9)
	keys[0], keys[1] = 7, 8
	if !slices.Equal(first.Ways[1].Keys, []int{1, 2}) || !lock.Same(second, want) {
		t.Error("an answer shares memory")
	}
	clear(b)
	if !lock.Same(second, want) {
		t.Error("what is read hangs on the bytes that were handed in")
	}
}

func Test7_4WhatMayBeIsReadAsItWas(t *testing.T) {
	for _, o := range rightOuts() {
		isRead(t, put(o), o)
	}
	for key := range topKey + 1 {
		isRead(t, put(lock.To(key, 5)), lock.To(key, 5))
	}
	for n := range 51 {
		for _, amount := range []int64{1<<n - 1, 1 << n} {
			isRead(t, put(lock.To(1, amount)), lock.To(1, amount))
		}
	}
	for n := range 31 {
		for _, height := range []int{1<<n - 1, 1 << n} {
			o := api.Out{Ways: []api.Way{{After: height}, {Wait: height}}}
			isRead(t, put(o), o)
		}
	}
	for n := range topList + 1 {
		o := api.Out{Ways: slices.Repeat([]api.Way{{Keys: rising(n, 100+n)}}, max(n, 1))}
		isRead(t, put(o), o)
	}
}

// What is read may be, and is written as it was read: no other bytes are read as it.
func Test7_4WhatIsReadMayBe(t *testing.T) {
	read := 0
	for _, o := range rightOuts()[:12] {
		b := packed(o)
		for i := range b {
			for _, bits := range []byte{1, 2, 0x10, 0x80, 0xff} {
				b[i] ^= bits
				y := wire.Look(b)
				if got := lock.Get(y); y.Done() == api.OK {
					read++
					if !lock.RightOut(got) || !bytes.Equal(put(got), b) {
						t.Errorf("%x is read as %v", b, got)
					}
				}
				b[i] ^= bits
			}
		}
	}
	if read == 0 {
		t.Error("nothing was read")
	}
}
