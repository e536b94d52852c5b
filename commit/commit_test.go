package commit_test

import (
	"math"
	"testing"

	"bartizan/api"
	"bartizan/commit"
)

// The greatest ones that may be, written out.
const (
	topAmount = 1125899906842624
	topId     = 1048576
	topKey    = 255
	topPlace  = 15
	topState  = 1048576
	topWait   = 65536
)

// far are numbers that no field may have.
var far = []int{-1, -2, math.MinInt, math.MinInt + 1, -1 << 32, math.MaxInt, 1 << 62, 1<<63 - 2}

// full is the sum all of whose bits are 1.
func full() api.Sum {
	var s api.Sum
	for i := range s {
		s[i] = 0xff
	}
	return s
}

// risingSum is the sum of the bytes 0 to 31.
func risingSum() api.Sum {
	var s api.Sum
	for i := range s {
		s[i] = byte(i)
	}
	return s
}

// plain is a channel of 100.
func plain() api.Channel {
	return api.Channel{Id: 1, Client: 1, Peer: 2, Fund: api.Ref{Tx: api.Sum{7}, At: 3}, Cap: 100, Wait: 6, Window: 4}
}

// plainState is a state of the plain channel.
func plainState() commit.State {
	return commit.State{N: 5, Client: 60, Peer: 40, Hashes: [2]api.Sum{{11}, risingSum()}}
}

// with is a channel of which something is changed.
func with(c api.Channel, change func(c *api.Channel)) api.Channel {
	change(&c)
	return c
}

// withState is a state of which something is changed.
func withState(s commit.State, change func(s *commit.State)) commit.State {
	change(&s)
	return s
}

// rightChannels are channels that may be, with the edges of each field.
func rightChannels() []api.Channel {
	l := []api.Channel{plain(), {Client: 1, Cap: 1, Wait: 2, Window: 1}}
	for _, n := range []int{0, 1, 2, 127, 128, topId - 1, topId} {
		l = append(l, with(plain(), func(c *api.Channel) { c.Id = n }))
	}
	for _, keys := range [][2]int{{0, 1}, {1, 0}, {0, topKey}, {topKey, 0}, {topKey - 1, topKey}, {topKey, topKey - 1}, {127, 128}, {128, 127}} {
		l = append(l, with(plain(), func(c *api.Channel) { c.Client, c.Peer = keys[0], keys[1] }))
	}
	for _, n := range []int64{1, 2, 3, 127, 128, 1 << 32, topAmount - 1, topAmount} {
		l = append(l, with(plain(), func(c *api.Channel) { c.Cap = n }))
	}
	for _, n := range [][2]int{{1, 2}, {1, 3}, {1, topWait}, {2, 3}, {5, 6}, {5, 1000}, {topWait - 2, topWait - 1}, {topWait - 2, topWait}, {topWait - 1, topWait}} {
		l = append(l, with(plain(), func(c *api.Channel) { c.Window, c.Wait = n[0], n[1] }))
	}
	for at := range topPlace + 1 {
		l = append(l, with(plain(), func(c *api.Channel) { c.Fund.At = at }))
	}
	for _, s := range []api.Sum{{}, full(), risingSum()} {
		l = append(l, with(plain(), func(c *api.Channel) { c.Fund.Tx = s }))
	}
	all := api.Channel{Id: topId, Client: topKey, Peer: 0, Fund: api.Ref{Tx: full(), At: topPlace}, Cap: topAmount, Wait: topWait, Window: topWait - 1}
	return append(l, all)
}

// wrongChannels are channels that may not be, each by one field alone (or by two that don't go together).
func wrongChannels() []api.Channel {
	var l []api.Channel
	add := func(change func(c *api.Channel)) {
		l = append(l, with(plain(), change))
	}
	for _, n := range append([]int{topId + 1, 1 << 32, 1<<32 + 1}, far...) {
		add(func(c *api.Channel) { c.Id = n })
	}
	for _, n := range append([]int{topKey + 1, 257, 1 << 32, 1<<32 + 5}, far...) {
		add(func(c *api.Channel) { c.Client = n })
		add(func(c *api.Channel) { c.Peer = n })
		add(func(c *api.Channel) { c.Client, c.Peer = n, n })
	}
	for key := range topKey + 1 {
		add(func(c *api.Channel) { c.Client, c.Peer = key, key })
	}
	for _, n := range []int64{0, -1, -100, math.MinInt64, topAmount + 1, 1 << 51, 1 << 62, math.MaxInt64} {
		add(func(c *api.Channel) { c.Cap = n })
	}
	for _, n := range append([]int{0, 6, 7, 1000, 1 << 32, 1<<32 + 4}, far...) {
		add(func(c *api.Channel) { c.Window = n })
	}
	for _, n := range append([]int{0, 1, 3, 4, topWait + 1, 1 << 32, 1<<32 + 6}, far...) {
		add(func(c *api.Channel) { c.Wait = n })
	}
	for _, n := range [][2]int{{1, 1}, {0, 1}, {0, 0}, {-1, 1}, {2, 1}, {topWait, topWait}, {topWait, topWait + 1}, {topWait + 1, topWait + 2}, {-2, -1}, {math.MinInt, math.MaxInt}, {math.MaxInt, math.MinInt}} {
		add(func(c *api.Channel) { c.Window, c.Wait = n[0], n[1] })
	}
	for _, n := range append([]int{topPlace + 1, 17, 1 << 32, 1<<32 + 3}, far...) {
		add(func(c *api.Channel) { c.Fund.At = n })
	}
	return append(l, api.Channel{})
}

// rightStates are states that may be of a channel, with the edges of each field.
func rightStates(c api.Channel) []commit.State {
	first, second := api.Sum{11}, risingSum()
	l := []commit.State{}
	for _, n := range []int{0, 1, 2, 300, topState - 1, topState} {
		l = append(l, commit.State{N: n, Client: c.Cap, Hashes: [2]api.Sum{first, second}})
	}
	for _, n := range []int64{0, 1, c.Cap / 2, c.Cap - 1, c.Cap} {
		l = append(l, commit.State{N: 3, Client: n, Peer: c.Cap - n, Hashes: [2]api.Sum{first, second}})
	}
	for _, hash := range []api.Sum{first, second, full(), {31: 1}, {0: 1}, {0: 128}} {
		l = append(l, commit.State{Client: c.Cap, Hashes: [2]api.Sum{hash, second}}, commit.State{Peer: c.Cap, Hashes: [2]api.Sum{first, hash}})
		l = append(l, commit.State{Client: c.Cap, Hashes: [2]api.Sum{hash, hash}})
	}
	return l
}

// wrongStates are states that may not be of the plain channel.
func wrongStates() []commit.State {
	var l []commit.State
	add := func(change func(s *commit.State)) {
		l = append(l, withState(plainState(), change))
	}
	for _, n := range append([]int{topState + 1, 1 << 32, 1<<32 + 5}, far...) {
		add(func(s *commit.State) { s.N = n })
	}
	for _, hashes := range [][2]api.Sum{{}, {{}, {1}}, {{1}, {}}, {full(), {}}, {{}, full()}} {
		add(func(s *commit.State) { s.Hashes = hashes })
	}
	for _, n := range [][2]int64{
		{0, 0}, {60, 41}, {61, 40}, {60, 39}, {59, 40}, {100, 1}, {1, 100}, {0, 99}, {99, 0}, {100, 100}, {200, 0}, {0, 200},
		{101, -1}, {-1, 101}, {-60, 160}, {-100, 200}, {-100, 0}, {-50, -50},
		{topAmount, 100 - topAmount}, {100 - topAmount, topAmount}, {topAmount + 100, -topAmount}, {-topAmount, topAmount + 100},
		{math.MaxInt64, 100 - math.MaxInt64}, {math.MinInt64, math.MinInt64 + 100}, {math.MinInt64 + 50, math.MinInt64 + 50},
		{math.MaxInt64, math.MinInt64 + 101}, {math.MaxInt64, math.MaxInt64}, {1<<32 + 60, 40}, {60, 1<<32 + 40},
	} {
		add(func(s *commit.State) { s.Client, s.Peer = n[0], n[1] })
	}
	return append(l, commit.State{})
}

func Test14_1RightChannel(t *testing.T) {
	for _, c := range rightChannels() {
		if !commit.RightChannel(c) {
			t.Errorf("%+v may not be", c)
		}
	}
	for _, c := range wrongChannels() {
		if commit.RightChannel(c) {
			t.Errorf("%+v may be", c)
		}
	}
}

func Test14_1AWaitAsLongAsTheWindow(t *testing.T) {
	for _, n := range []int{1, 2, 100, topWait - 1, topWait} {
		c := with(plain(), func(c *api.Channel) { c.Window, c.Wait = n, n })
		if commit.RightChannel(c) {
			t.Errorf("a channel in which Wait is Window, %d, may be", n)
		}
		c.Wait++
		if commit.RightChannel(c) != (n < topWait) {
			t.Errorf("of the window %d, and a wait of one more: %v", n, n >= topWait)
		}
	}
}

func Test14_1RightStates(t *testing.T) {
	for _, c := range rightChannels() {
		for _, s := range rightStates(c) {
			if !commit.Right(c, s) {
				t.Errorf("%+v may not be of %+v", s, c)
			}
		}
	}
}

func Test14_1WrongStates(t *testing.T) {
	if !commit.Right(plain(), plainState()) {
		t.Fatal("the plain state may not be")
	}
	for _, s := range wrongStates() {
		if commit.Right(plain(), s) {
			t.Errorf("%+v may be", s)
		}
	}
}

func Test14_1StatesOfWrongChannels(t *testing.T) {
	for _, c := range wrongChannels() {
		for _, s := range append(rightStates(c), plainState()) {
			if commit.Right(c, s) {
				t.Errorf("%+v may be of %+v", s, c)
			}
		}
	}
}

func Test14_1StatesOfAnotherCap(t *testing.T) {
	for _, n := range []int64{1, 99, 101, 200, 1<<32 + 100, topAmount} {
		c := with(plain(), func(c *api.Channel) { c.Cap = n })
		if commit.Right(c, plainState()) {
			t.Errorf("60 and 40 may be of %d", n)
		}
	}
	c := with(plain(), func(c *api.Channel) { c.Cap = topAmount })
	for _, n := range [][2]int64{{topAmount, topAmount}, {topAmount, 1}, {1, topAmount}, {topAmount + 1, -1}, {topAmount - 1, 0}, {topAmount + 1, 0}} {
		if commit.Right(c, withState(plainState(), func(s *commit.State) { s.Client, s.Peer = n[0], n[1] })) {
			t.Errorf("%v may be of 2^50", n)
		}
	}
}
