package ledger_test

import (
	"bytes"
	"encoding/hex"
	"math"
	"slices"
	"testing"

	"bartizan/api"
	"bartizan/ledger"
)

// bytesOf are a channel's bytes, put together by hand.
func bytesOf(c api.Channel) []byte {
	return slices.Concat(nums(c.Id, c.Client, c.Peer), c.Fund.Tx[:], nums(c.Fund.At, int(c.Cap), c.Wait, c.Window))
}

// rightChannels are channels that may be, with the edges.
func rightChannels() []api.Channel {
	l := []api.Channel{plain()}
	for _, change := range []func(c *api.Channel){
		func(c *api.Channel) { c.Id = 0 },
		func(c *api.Channel) { c.Id = 128 },
		func(c *api.Channel) { c.Id = topNumber },
		func(c *api.Channel) { c.Client, c.Peer = 2, 1 },
		func(c *api.Channel) { c.Client, c.Peer = 255, 0 },
		func(c *api.Channel) { c.Client, c.Peer = 0, 255 },
		func(c *api.Channel) { c.Fund = api.Ref{} },
		func(c *api.Channel) { c.Fund = api.Ref{Tx: full(), At: 15} },
		func(c *api.Channel) { c.Cap = 1 },
		func(c *api.Channel) { c.Cap = topAmount },
		func(c *api.Channel) { c.Window, c.Wait = 1, 2 },
		func(c *api.Channel) { c.Window, c.Wait = 1, 65536 },
		func(c *api.Channel) { c.Window, c.Wait = 65535, 65536 },
	} {
		c := plain()
		change(&c)
		l = append(l, c)
	}
	return l
}

// wrongChannels are channels that may not be, of whose numbers none is below 0.
func wrongChannels() []api.Channel {
	var l []api.Channel
	for _, change := range []func(c *api.Channel){
		func(c *api.Channel) { *c = api.Channel{} },
		func(c *api.Channel) { c.Id = topNumber + 1 },
		func(c *api.Channel) { c.Id = math.MaxInt },
		func(c *api.Channel) { c.Client = 256 },
		func(c *api.Channel) { c.Client = 1 << 32 },
		func(c *api.Channel) { c.Peer = 256 },
		func(c *api.Channel) { c.Peer = math.MaxInt },
		func(c *api.Channel) { c.Client = 2 },
		func(c *api.Channel) { c.Peer = 1 },
		func(c *api.Channel) { c.Fund.At = 16 },
		func(c *api.Channel) { c.Fund.At = math.MaxInt },
		func(c *api.Channel) { c.Cap = 0 },
		func(c *api.Channel) { c.Cap = topAmount + 1 },
		func(c *api.Channel) { c.Cap = math.MaxInt64 },
		func(c *api.Channel) { c.Wait = 4 },
		func(c *api.Channel) { c.Wait = 3 },
		func(c *api.Channel) { c.Wait = 0 },
		func(c *api.Channel) { c.Wait = 65537 },
		func(c *api.Channel) { c.Wait, c.Window = math.MaxInt, math.MaxInt-1 },
		func(c *api.Channel) { c.Window = 0 },
		func(c *api.Channel) { c.Window = 6 },
		func(c *api.Channel) { c.Window = math.MaxInt },
	} {
		c := plain()
		change(&c)
		l = append(l, c)
	}
	return l
}

func Test18_1ChannelsBytes(t *testing.T) {
	for _, c := range append(rightChannels(), wrongChannels()...) {
		if got := ledger.Channel(c); !bytes.Equal(got, bytesOf(c)) {
			t.Errorf("%+v is %x, want %x", c, got, bytesOf(c))
		}
	}
	c := api.Channel{Id: 300, Client: 1, Peer: 200, Fund: api.Ref{Tx: api.Sum{31: 5}, At: 15}, Cap: 1000, Wait: 6, Window: 4}
	want := "ac0201c801" + "0000000000000000000000000000000000000000000000000000000000000005" + "0fe8070604"
	if got := hex.EncodeToString(ledger.Channel(c)); got != want {
		t.Errorf("%s, want %s", got, want)
	}
}

// Numbers below 0 are written as wire does.
func Test18_1ChannelsNumbersBelow0(t *testing.T) {
	for _, n := range []int{-1, -300, math.MinInt} {
		c := api.Channel{Id: n, Client: n, Peer: n, Fund: api.Ref{Tx: full(), At: n}, Cap: int64(n), Wait: n, Window: n}
		if got := ledger.Channel(c); !bytes.Equal(got, bytesOf(api.Channel{Fund: api.Ref{Tx: full()}})) {
			t.Errorf("%+v is %x", c, got)
		}
	}
}

func Test18_1ChannelsAreRead(t *testing.T) {
	for _, c := range rightChannels() {
		handed := bytesOf(c)
		got, e := ledger.ReadChannel(handed)
		if got != c || e != api.OK || !bytes.Equal(handed, bytesOf(c)) {
			t.Errorf("%+v is read as %+v, %v", c, got, e)
		}
		if got, e := ledger.ReadChannel(ledger.Channel(c)); got != c || e != api.OK {
			t.Errorf("%+v is read as %+v, %v", c, got, e)
		}
	}
}

// isNoChannel holds the error of bytes that are no channel.
func isNoChannel(t *testing.T, what string, b []byte, want api.Errno) {
	t.Helper()
	if c, e := ledger.ReadChannel(b); c != (api.Channel{}) || e != want {
		t.Errorf("%s: %x is read as %+v, %v, want %v", what, b, c, e, want)
	}
}

func Test18_1ChannelsThatMayNotBe(t *testing.T) {
	for _, c := range wrongChannels() {
		isNoChannel(t, "as it is", bytesOf(c), api.ErrForm)
		isNoChannel(t, "and more", append(bytesOf(c), 0), api.ErrLong)
		isNoChannel(t, "and less", bytesOf(c)[:len(bytesOf(c))-1], api.ErrShort)
	}
}

func Test18_1ChannelsThatAreCut(t *testing.T) {
	for _, c := range rightChannels() {
		b := bytesOf(c)
		for i := range b {
			isNoChannel(t, "cut", b[:i], api.ErrShort)
		}
		for _, more := range [][]byte{{0}, {1}, {0xff}, {0x80, 0}, b} {
			isNoChannel(t, "and more", append(bytesOf(c), more...), api.ErrLong)
		}
	}
	isNoChannel(t, "nothing", nil, api.ErrShort)
	isNoChannel(t, "zeros", make([]byte, 39), api.ErrForm)
	isNoChannel(t, "more zeros", make([]byte, 40), api.ErrLong)
	isNoChannel(t, "many zeros", make([]byte, 70000), api.ErrLong)
	isNoChannel(t, "fewer zeros", make([]byte, 38), api.ErrShort)
}

// spelt are a channel's bytes, in which one of its seven numbers stands otherwise.
func spelt(place int, as []byte) []byte {
	c := plain()
	l := [][]byte{num(c.Id), num(c.Client), num(c.Peer), c.Fund.Tx[:], num(c.Fund.At), num(int(c.Cap)), num(c.Wait), num(c.Window)}
	l[place] = as
	return slices.Concat(l...)
}

func Test18_1ChannelsNumbersInOtherForms(t *testing.T) {
	high := func(n int) []byte { return bytes.Repeat([]byte{0x80}, n) }
	for _, place := range []int{0, 1, 2, 4, 5, 6, 7} {
		isNoChannel(t, "of two bytes", spelt(place, []byte{0x84, 0}), api.ErrForm)
		isNoChannel(t, "of eight bytes and 0", spelt(place, append(high(8), 0)), api.ErrForm)
		isNoChannel(t, "of nine bytes", spelt(place, high(9)), api.ErrRange)
		isNoChannel(t, "of nine bytes and 1", spelt(place, append(high(9), 1)), api.ErrRange)
		isNoChannel(t, "of 2^56", spelt(place, append(high(8), 1)), api.ErrForm)
		isNoChannel(t, "of two bytes, and more", append(spelt(place, []byte{0x84, 0}), 9), api.ErrForm)
		isNoChannel(t, "of nine bytes, and more", append(spelt(place, high(9)), 9), api.ErrRange)
		isNoChannel(t, "of 2^56, and more", append(spelt(place, append(high(8), 1)), 9), api.ErrLong)
	}
	two := slices.Concat([]byte{0x84, 0}, high(9))
	isNoChannel(t, "the first of two errors", two, api.ErrForm)
	isNoChannel(t, "the first of two errors", slices.Concat(high(9), []byte{0x84, 0}), api.ErrRange)
}

func Test18_1ChannelsShareNoMemory(t *testing.T) {
	b := ledger.Channel(plain())
	clear(b)
	if !bytes.Equal(ledger.Channel(plain()), bytesOf(plain())) {
		t.Error("what was answered is kept")
	}
	handed := bytesOf(plain())
	c, _ := ledger.ReadChannel(handed)
	clear(handed)
	if c != plain() {
		t.Error("what was handed in is kept")
	}
}
