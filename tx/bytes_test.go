package tx_test

import (
	"bytes"
	"crypto/sha256"
	"encoding/binary"
	"encoding/hex"
	"math"
	"slices"
	"strings"
	"testing"

	"bartizan/api"
	"bartizan/lock"
	"bartizan/tx"
)

// number is a number's bytes, those below 0 as 0.
func number(n int) []byte {
	var b []byte
	rest := max(n, 0)
	for ; rest >= 128; rest /= 128 {
		b = append(b, byte(rest%128+128))
	}
	return append(b, byte(rest))
}

// text is a text's bytes.
func text(s []byte) []byte {
	return append(number(len(s)), s...)
}

// packedOut is an out's bytes.
func packedOut(o api.Out) []byte {
	b := slices.Concat(number(int(o.Amount)), number(len(o.Ways)))
	for _, w := range o.Ways {
		b = append(b, number(len(w.Keys))...)
		for _, key := range w.Keys {
			b = append(b, number(key)...)
		}
		b = slices.Concat(b, w.Hash[:], number(w.After), number(w.Wait))
	}
	return b
}

// packedOp is an op's bytes.
func packedOp(o api.Op) []byte {
	return slices.Concat(number(o.Kind), number(o.Tower), number(o.Channel), number(int(o.Amount)), o.Root[:], text(o.Data))
}

// packedIns are the bytes of ins, behind how many there are.
func packedIns(l []api.In, shown bool) []byte {
	b := number(len(l))
	for _, in := range l {
		b = slices.Concat(b, in.Ref.Tx[:], number(in.Ref.At), number(in.Way))
		if shown {
			b = append(b, text(in.Pre)...)
		}
	}
	return b
}

// packedOuts are the bytes of outs, behind how many there are.
func packedOuts(l []api.Out) []byte {
	b := number(len(l))
	for _, o := range l {
		b = append(b, packedOut(o)...)
	}
	return b
}

// packedSigns are the bytes of signs, behind how many there are.
func packedSigns(l []api.Sign) []byte {
	b := number(len(l))
	for _, s := range l {
		b = slices.Concat(b, number(s.Key), s.Of[:])
	}
	return b
}

// packed is a transaction's bytes.
func packed(x api.Tx) []byte {
	return slices.Concat(packedIns(x.Ins, true), packedOuts(x.Outs), packedOp(x.Op), packedSigns(x.Signs))
}

// sumOf is a transaction's sum, by the library's SHA-256.
func sumOf(x api.Tx) api.Sum {
	front := slices.Concat(packedIns(x.Ins, false), packedOuts(x.Outs), packedOp(x.Op))
	b := binary.BigEndian.AppendUint32([]byte{41}, uint32(len(front)))
	return sha256.Sum256(append(b, front...))
}

// zeros is n bytes of zero.
func zeros(n int) string {
	return strings.Repeat("\x00", n)
}

func Test8_1Sum(t *testing.T) {
	for i, x := range slices.Concat(rightTxs(), wrongTxs()) {
		handed := clone(x)
		if got, want := tx.Sum(x), sumOf(x); got != want {
			t.Errorf("transaction %d is summed to %x, want %x", i, got, want)
		}
		if !isAlike(x, handed) {
			t.Errorf("transaction %d has changed", i)
		}
	}
}

// These sums come of the document's words in another language.
func Test8_1KnownSums(t *testing.T) {
	s := api.Sum{0: 1, 31: 2}
	for want, x := range map[string]api.Tx{
		"9db936f7a005f351f6dcefd974e1cdf8a2bc12ba06bc9589b3e9ce88751f6508": {Ins: []api.In{{}}},
		"f8e43c89f41035b15c062c05a7a0d2e4a245bed186b74d337f6af6816fc5b25b": {
			Ins:   []api.In{{Ref: api.Ref{Tx: s, At: 3}, Way: 1, Pre: []byte("shown")}, {Ref: api.Ref{Tx: s, At: 4}}},
			Outs:  []api.Out{lock.To(7, 300), {Amount: topAmount, Ways: []api.Way{{Keys: []int{1, 200}, Hash: s, After: 5, Wait: 6}, {}}}},
			Op:    api.Op{Kind: api.OpHold, Tower: topTower, Channel: 300, Amount: 1000, Root: s, Data: []byte("data")},
			Signs: []api.Sign{{Key: 5, Of: s}},
		},
	} {
		got := tx.Sum(x)
		if hex.EncodeToString(got[:]) != want {
			t.Errorf("summed to %x, want %s", got, want)
		}
	}
}

func Test8_1WhatIsShownAndWhoSignedIsNotSummed(t *testing.T) {
	x := rightTxs()[3]
	want := tx.Sum(x)
	for _, pre := range [][]byte{nil, {}, {0}, []byte("hi"), make([]byte, topPre), make([]byte, 1000)} {
		other := clone(x)
		other.Ins[0].Pre, other.Ins[1].Pre = pre, append([]byte("and "), pre...)
		other.Signs = signsOf(len(pre), 30)
		if tx.Sum(other) != want {
			t.Errorf("what is shown, %d bytes, is summed", len(pre))
		}
	}
}

func Test8_1AllElseIsSummed(t *testing.T) {
	x := rightTxs()[3]
	seen := map[api.Sum]int{tx.Sum(x): 1}
	for _, c := range changes() {
		other := clone(x)
		c(&other)
		seen[tx.Sum(other)]++
	}
	swapped := clone(x)
	slices.Reverse(swapped.Ins)
	seen[tx.Sum(swapped)]++
	swapped = clone(x)
	slices.Reverse(swapped.Outs)
	seen[tx.Sum(swapped)]++
	if want := len(changes()) + 3; len(seen) != want {
		t.Errorf("of %d unlike transactions there are %d sums", want, len(seen))
	}
}

func Test8_1NumbersBelow0AreSummedAs0(t *testing.T) {
	x := api.Tx{Ins: []api.In{{}}, Outs: []api.Out{{Ways: []api.Way{{Keys: []int{0}}}}}}
	for _, n := range []int{-1, -300, math.MinInt} {
		below := api.Tx{
			Ins:  []api.In{{Ref: api.Ref{At: n}, Way: n}},
			Outs: []api.Out{{Amount: int64(n), Ways: []api.Way{{Keys: []int{n}, After: n, Wait: n}}}},
			Op:   api.Op{Kind: n, Tower: n, Channel: n, Amount: int64(n)},
		}
		if tx.Sum(below) != tx.Sum(x) {
			t.Errorf("the number %d is not summed as 0", n)
		}
	}
}

func Test8_3BytesByHand(t *testing.T) {
	for _, c := range []struct {
		x    api.Tx
		want string
	}{
		{api.Tx{Ins: []api.In{{}}}, "\x01" + zeros(32) + "\x00\x00\x00" + "\x00" + zeros(4) + zeros(32) + "\x00" + "\x00"},
		{api.Tx{Op: api.Op{Kind: api.OpTake}}, "\x00" + "\x00" + "\x05" + zeros(3) + zeros(32) + "\x00" + "\x00"},
		{
			api.Tx{
				Ins:   []api.In{{Ref: api.Ref{Tx: api.Sum{0: 8, 31: 9}, At: 3}, Way: 15, Pre: []byte("hi")}, {Ref: api.Ref{At: 15}, Way: 1}},
				Outs:  []api.Out{lock.To(7, 300)},
				Op:    api.Op{Kind: api.OpSettle, Tower: 15, Channel: 1 << 20, Amount: 1 << 50, Root: api.Sum{31: 5}, Data: []byte("abc")},
				Signs: []api.Sign{{Key: 2, Of: api.Sum{0: 1}}, {Key: 255, Of: api.Sum{31: 4}}},
			},
			"\x02" + "\x08" + zeros(30) + "\x09" + "\x03" + "\x0f" + "\x02hi" + zeros(32) + "\x0f" + "\x01" + "\x00" +
				"\x01" + "\xac\x02" + "\x01" + "\x01\x07" + zeros(34) +
				"\x07" + "\x0f" + "\x80\x80\x40" + strings.Repeat("\x80", 7) + "\x02" + zeros(31) + "\x05" + "\x03abc" +
				"\x02" + "\x02" + "\x01" + zeros(31) + "\xff\x01" + zeros(31) + "\x04",
		},
	} {
		got, e := tx.Bytes(c.x)
		if e != api.OK || string(got) != c.want {
			t.Errorf("the bytes are %x, error %d, want %x", got, e, c.want)
		}
		isRead(t, []byte(c.want), c.x)
	}
}

func Test8_3Bytes(t *testing.T) {
	for i, x := range rightTxs() {
		handed := clone(x)
		if got, e := tx.Bytes(x); e != api.OK || !bytes.Equal(got, packed(x)) {
			t.Errorf("transaction %d has other bytes, error %d", i, e)
		}
		if !isAlike(x, handed) {
			t.Errorf("transaction %d has changed", i)
		}
	}
}

func Test8_3WhatMayNotBeHasNoBytes(t *testing.T) {
	for i, x := range wrongTxs() {
		if got, e := tx.Bytes(x); e != api.ErrArg || len(got) != 0 {
			t.Errorf("transaction %d has %d bytes, error %d", i, len(got), e)
		}
	}
}

// isRead holds that bytes are read as a transaction.
func isRead(t *testing.T, b []byte, want api.Tx) {
	t.Helper()
	handed := bytes.Clone(b)
	got, e := tx.Read(b)
	if e != api.OK || !isAlike(got, want) {
		t.Errorf("%d bytes are read otherwise, error %d: %v", len(b), e, got.Ins)
	}
	if !bytes.Equal(b, handed) {
		t.Error("what was handed in has changed")
	}
}

// isRefused holds that bytes are read as no transaction, by that error.
func isRefused(t *testing.T, b []byte, want api.Errno) {
	t.Helper()
	got, e := tx.Read(b)
	if e != want {
		t.Errorf("%d bytes are read with error %d, want %d", len(b), e, want)
	}
	if len(got.Ins) != 0 || len(got.Outs) != 0 || len(got.Signs) != 0 || !isAlikeOp(got.Op, api.Op{}) {
		t.Errorf("beside error %d %v is read", e, got)
	}
}

func Test8_3Read(t *testing.T) {
	for _, x := range rightTxs() {
		isRead(t, packed(x), x)
	}
}

func Test8_3BytesThatLack(t *testing.T) {
	isRefused(t, nil, api.ErrShort)
	for i, x := range rightTxs() {
		b := packed(x)
		step := 1 + len(b)/2000*(i+7)
		for n := 0; n < len(b); n += step {
			isRefused(t, b[:n], api.ErrShort)
		}
		isRefused(t, b[:len(b)-1], api.ErrShort)
	}
}

func Test8_3BytesBehind(t *testing.T) {
	for _, x := range rightTxs() {
		for _, behind := range []string{"\x00", "\x80", "more"} {
			isRefused(t, append(packed(x), behind...), api.ErrLong)
		}
	}
	// that something is left is told ahead of that it may not be
	isRefused(t, append(packed(api.Tx{}), 0), api.ErrLong)
	isRefused(t, append(packed(twice()[0]), 0), api.ErrLong)
}

// parts are a transaction's bytes, in the pieces of which numbers are.
type parts struct {
	ins, in, at, way, pre, outs, out, kind, tower, channel, amount, data, signs, key string
}

// plain are the parts of a transaction of an in, an out, an op and a sign.
func plain() parts {
	out := string(packedOut(lock.To(7, 300)))
	return parts{"\x01", zeros(32), "\x01", "\x02", "\x02hi", "\x01", out, "\x02", "\x03", "\xac\x02", "\x05", "\x01d", "\x01", "\x09"}
}

func (p parts) joined() []byte {
	op := p.kind + p.tower + p.channel + p.amount + zeros(32) + p.data
	return []byte(p.ins + p.in + p.at + p.way + p.pre + p.outs + p.out + op + p.signs + p.key + zeros(32))
}

// each calls f with each number of the parts, how much it may be, and what sets it to other bytes.
func each(f func(name string, most int, set func(p *parts, to string))) {
	f("ins", topList, func(p *parts, to string) { p.ins = to })
	f("at", topPlace, func(p *parts, to string) { p.at = to })
	f("way", topPlace, func(p *parts, to string) { p.way = to })
	f("pre", topPre, func(p *parts, to string) { p.pre = to })
	f("outs", topList, func(p *parts, to string) { p.outs = to })
	f("out", topAmount, func(p *parts, to string) { p.out = to })
	f("kind", topKind, func(p *parts, to string) { p.kind = to })
	f("tower", topTower, func(p *parts, to string) { p.tower = to })
	f("channel", topChannel, func(p *parts, to string) { p.channel = to })
	f("amount", topAmount, func(p *parts, to string) { p.amount = to })
	f("data", topData, func(p *parts, to string) { p.data = to })
	f("signs", topList, func(p *parts, to string) { p.signs = to })
	f("key", topKey, func(p *parts, to string) { p.key = to })
}

func Test8_3NumbersAboveWhatMayBe(t *testing.T) {
	if _, e := tx.Read(plain().joined()); e != api.OK {
		t.Fatalf("the plain one is read with error %d", e)
	}
	each(func(name string, most int, set func(p *parts, to string)) {
		for _, n := range []int{most + 1, most + 128, 1 << 55, math.MaxInt} {
			p := plain()
			set(&p, string(number(n)))
			isRefused(t, p.joined(), api.ErrRange)
			isRefused(t, append(p.joined(), make([]byte, 2*topData)...), api.ErrRange)
		}
		p := plain()
		set(&p, strings.Repeat("\xff", 9))
		isRefused(t, p.joined(), api.ErrRange)
	})
}

func Test8_3NumbersInAnotherForm(t *testing.T) {
	each(func(name string, most int, set func(p *parts, to string)) {
		for _, to := range []string{"\x81\x00", "\x80\x00", "\x81\x80\x00"} {
			p := plain()
			set(&p, to)
			isRefused(t, p.joined(), api.ErrForm)
		}
	})
}

// Of two errors the one that stands ahead in the bytes is told.
func Test8_3TheFirstErrorOfWhatIsRead(t *testing.T) {
	type setter = func(p *parts, to string)
	var names []string
	var mosts []int
	var sets []setter
	each(func(name string, most int, set func(p *parts, to string)) {
		names, mosts, sets = append(names, name), append(mosts, most), append(sets, set)
	})
	for i := range sets {
		for j := range i {
			p := plain()
			sets[j](&p, "\x81\x00")
			sets[i](&p, string(number(mosts[i]+1)))
			isRefused(t, p.joined(), api.ErrForm)
			p = plain()
			sets[j](&p, string(number(mosts[j]+1)))
			sets[i](&p, "\x81\x00")
			isRefused(t, p.joined(), api.ErrRange)
			b := p.joined()
			isRefused(t, b[:len(b)-1], api.ErrRange)
		}
	}
	// an out that may not be is told ahead of what stands behind it, and behind what stands ahead
	p := plain()
	p.out, p.kind = "\x05\x00", "\x08"
	isRefused(t, p.joined(), api.ErrForm)
	p.way = "\x10"
	isRefused(t, p.joined(), api.ErrRange)
	p = plain()
	p.out = "\x05\x00"
	isRefused(t, p.joined()[:70], api.ErrForm)
}

func Test8_3OutsThatMayNotBe(t *testing.T) {
	for _, out := range []string{
		"\x05\x00",
		"\x05\x01" + "\x02\x02\x02" + zeros(34),
		"\x05\x01" + "\x02\x02\x01" + zeros(34),
	} {
		p := plain()
		p.out = out
		isRefused(t, p.joined(), api.ErrForm)
		isRefused(t, append(p.joined(), "and more"...), api.ErrForm)
	}
	for _, out := range []string{
		"\x05\x11",
		"\x05\x01" + "\x11",
		"\x05\x01" + "\x01\x80\x02" + zeros(34),
		"\x05\x01" + "\x01\x07" + zeros(32) + "\x81\x80\x80\x80\x04" + "\x00",
		"\x05\x01" + "\x01\x07" + zeros(32) + "\x00" + "\x81\x80\x80\x80\x04",
	} {
		p := plain()
		p.out = out
		isRefused(t, p.joined(), api.ErrRange)
	}
}

func Test8_3TransactionsThatMayNotBe(t *testing.T) {
	l := slices.Concat(twice(), []api.Tx{
		{},
		{Outs: outsOf(2), Signs: signsOf(2, 9)},
		{Ins: insOf(1), Op: api.Op{Tower: 1}},
		{Ins: insOf(1), Op: api.Op{Channel: 1}},
		{Ins: insOf(1), Op: api.Op{Amount: 1}},
		{Ins: insOf(1), Op: api.Op{Root: api.Sum{31: 1}}},
		{Ins: insOf(1), Op: api.Op{Data: []byte{0}}},
		{Ins: insOf(1), Signs: []api.Sign{{Key: 5}, {Key: 5}}},
		{Ins: insOf(1), Signs: []api.Sign{{Key: 5}, {Key: 4}}},
		{Op: rightOps()[2], Signs: []api.Sign{{Key: 1}, {Key: 2}, {Key: 0}}},
	})
	for _, x := range l {
		isRefused(t, packed(x), api.ErrForm)
	}
}

func Test8_3WhatIsReadIsNewMemory(t *testing.T) {
	want := rightTxs()[3]
	want.Op = rightOps()[3]
	b := packed(want)
	first, _ := tx.Read(b)
	second, _ := tx.Read(b)
	first.Ins[1].Pre[0]++
	first.Outs[0].Ways[0].Keys[0]++
	first.Op.Data[0]++
	first.Signs[0].Key++
	clear(b)
	if !isAlike(second, want) {
		t.Error("what is read shares memory")
	}
}

func isSame(t *testing.T, a, b api.Tx, want bool) {
	t.Helper()
	if got := tx.Same(a, b); got != want {
		t.Errorf("%v and %v are alike: %v", a.Ins, b.Ins, got)
	}
}

func Test8_3Same(t *testing.T) {
	l := rightTxs()[:12]
	for i, a := range l {
		for j, b := range l {
			isSame(t, a, clone(b), bytes.Equal(packed(l[i]), packed(l[j])))
		}
	}
	for _, x := range rightTxs() {
		isSame(t, x, clone(x), true)
	}
}

func Test8_3SameOfWhatIsChanged(t *testing.T) {
	x := rightTxs()[3]
	x.Op = rightOps()[3]
	for _, c := range append(changes(),
		func(x *api.Tx) { x.Ins[0].Pre = append(x.Ins[0].Pre, 0) },
		func(x *api.Tx) { x.Ins[1].Pre[0]++ },
		func(x *api.Tx) { x.Ins[1].Pre = nil },
		func(x *api.Tx) { x.Signs[0].Key-- },
		func(x *api.Tx) { x.Signs[0].Of[31]++ },
		func(x *api.Tx) { x.Signs = x.Signs[1:] },
		func(x *api.Tx) { x.Signs = nil },
		func(x *api.Tx) { slices.Reverse(x.Ins) },
	) {
		other := clone(x)
		c(&other)
		isSame(t, x, other, false)
		isSame(t, other, x, false)
	}
}

// What may not be is like nothing, not even itself.
func Test8_3SameOfWhatMayNotBe(t *testing.T) {
	for _, x := range wrongTxs() {
		isSame(t, x, x, false)
		isSame(t, x, rightTxs()[0], false)
		isSame(t, rightTxs()[0], x, false)
	}
	below := api.Tx{Ins: []api.In{{Way: -1}}}
	isSame(t, below, api.Tx{Ins: []api.In{{}}}, false)
	isSame(t, api.Tx{Ins: []api.In{{}}}, below, false)
}

func Test8_3NilIsTheEmptyList(t *testing.T) {
	a := api.Tx{Ins: []api.In{{}}, Outs: []api.Out{{Ways: []api.Way{{}}}}}
	b := api.Tx{
		Ins:   []api.In{{Pre: []byte{}}},
		Outs:  []api.Out{{Ways: []api.Way{{Keys: []int{}}}}},
		Op:    api.Op{Data: []byte{}},
		Signs: []api.Sign{},
	}
	isSame(t, a, b, true)
	isSame(t, b, a, true)
	if tx.Sum(a) != tx.Sum(b) {
		t.Error("nil is summed otherwise than the empty list")
	}
}

func Test8_4WhatMayBeIsReadAsItWas(t *testing.T) {
	for i, x := range rightTxs() {
		b, e := tx.Bytes(x)
		if e != api.OK {
			t.Errorf("transaction %d has no bytes, error %d", i, e)
		}
		isRead(t, b, x)
		got, _ := tx.Read(b)
		if !tx.Same(got, x) || tx.Sum(got) != tx.Sum(x) || !slices.Equal(tx.Keys(got), tx.Keys(x)) {
			t.Errorf("transaction %d is read otherwise", i)
		}
	}
}

// All that the chapter bounds, at each of its values or around each power of two.
func Test8_4AllThatMayBeIsReadAsItWas(t *testing.T) {
	trip := func(x api.Tx) {
		t.Helper()
		b, e := tx.Bytes(x)
		if e != api.OK {
			t.Errorf("there are no bytes, error %d", e)
		}
		isRead(t, b, x)
	}
	for n := range topList {
		trip(api.Tx{Ins: []api.In{{Ref: api.Ref{At: n}, Way: topPlace - n}}})
		trip(api.Tx{Ins: insOf(n + 1), Outs: outsOf(topList - n), Signs: signsOf(n+1, topKey-n)})
		trip(api.Tx{Op: api.Op{Kind: 1 + n%topKind, Tower: n}})
	}
	for n := range topPre + 1 {
		trip(api.Tx{Ins: []api.In{{Pre: bytes.Repeat([]byte{byte(n)}, n)}}})
	}
	for key := range topKey + 1 {
		trip(api.Tx{Ins: insOf(1), Signs: []api.Sign{{Key: key, Of: full()}}})
	}
	for n := range 51 {
		trip(api.Tx{Op: api.Op{Kind: api.OpBond, Amount: 1 << n, Channel: 1 << min(n, 20), Data: make([]byte, 1<<min(n, 16))}})
		trip(api.Tx{Op: api.Op{Kind: api.OpBond, Amount: 1<<n - 1, Channel: 1<<min(n, 20) - 1, Data: make([]byte, 1<<min(n, 16)-1)}})
	}
}

// What is read may be, and has just the bytes of which it was read.
func Test8_4WhatIsReadHasJustTheseBytes(t *testing.T) {
	read := 0
	x := rightTxs()[3]
	x.Op = rightOps()[3]
	for _, x := range append(rightTxs()[:4], x, tx.Signed(x, 1, 2)) {
		b := packed(x)
		for i := range b {
			for bits := 1; bits < 256; bits++ {
				b[i] ^= byte(bits)
				if got, e := tx.Read(b); e == api.OK {
					read++
					if again, e := tx.Bytes(got); e != api.OK || !bytes.Equal(again, b) || !tx.Right(got) {
						t.Errorf("%x is read as %v", b, got)
					}
				}
				b[i] ^= byte(bits)
			}
		}
	}
	if read == 0 {
		t.Error("nothing was read")
	}
}
