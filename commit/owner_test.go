package commit_test

import (
	"fmt"
	"math"
	"reflect"
	"testing"

	"bartizan/api"
	"bartizan/commit"
	"bartizan/lock"
	"bartizan/tx"
)

// isOwner holds whose commitment a transaction is against who it must be.
func isOwner(t *testing.T, what string, c api.Channel, x api.Tx, want int) {
	t.Helper()
	if got := commit.Owner(c, x); got != want {
		t.Errorf("%s: the owner is %d, want %d, of %+v, %+v", what, got, want, c, x)
	}
}

// changed is the commitment of the plain channel of which something is changed.
func changed(owner int, change func(x *api.Tx)) api.Tx {
	x := built(plain(), plainState(), owner)
	change(&x)
	return x
}

// freeChanges change what may be any.
func freeChanges() []func(x *api.Tx) {
	l := []func(x *api.Tx){
		func(x *api.Tx) { x.Ins[0].Pre = []byte("shown") },
		func(x *api.Tx) { x.Ins[0].Pre = make([]byte, 1000) },
		func(x *api.Tx) { x.Ins[0].Pre = []byte{} },
		func(x *api.Tx) { x.Signs = []api.Sign{{Key: 1, Of: tx.Sum(*x)}} },
		func(x *api.Tx) { x.Signs = []api.Sign{{Key: -5}, {Key: 900}, {Key: 900}} },
		func(x *api.Tx) { x.Signs = make([]api.Sign, 40) },
		func(x *api.Tx) { *x = tx.Signed(*x, 1, 2, 9) },
		func(x *api.Tx) { x.Op.Data = []byte("data") },
		func(x *api.Tx) { x.Op.Data = make([]byte, api.MaxData+1) },
		func(x *api.Tx) { x.Op.Root = api.Sum{31: 1} },
		func(x *api.Tx) { x.Op = api.Op{Tower: 3, Channel: 1, Amount: 9, Root: full(), Data: []byte{0}} },
		func(x *api.Tx) { x.Outs[0].Ways[0].Keys = append([]int{}, x.Outs[0].Ways[0].Keys...) },
	}
	for _, n := range append([]int{1, 15, 16, 1000}, far...) {
		l = append(l, func(x *api.Tx) { x.Ins[0].Way = n })
		l = append(l, func(x *api.Tx) { x.Op.Tower = n }, func(x *api.Tx) { x.Op.Channel = n }, func(x *api.Tx) { x.Op.Amount = int64(n) })
	}
	for _, n := range []int64{0, 1, 41, 100, topAmount, topAmount + 1, -1, math.MinInt64, math.MaxInt64} {
		l = append(l, func(x *api.Tx) { x.Outs[0].Amount = n }, func(x *api.Tx) { x.Outs[1].Amount = n })
		l = append(l, func(x *api.Tx) { x.Outs[0].Amount, x.Outs[1].Amount = n, n })
	}
	for _, hash := range []api.Sum{{1}, {31: 1}, {0: 128}, full(), plainState().Hashes[0], plainState().Hashes[1]} {
		l = append(l, func(x *api.Tx) { x.Outs[0].Ways[1].Hash = hash })
	}
	return l
}

// inChanges change the ins so that it is none.
func inChanges() []func(x *api.Tx) {
	l := []func(x *api.Tx){
		func(x *api.Tx) { x.Ins = nil },
		func(x *api.Tx) { x.Ins = []api.In{} },
		func(x *api.Tx) { x.Ins = append(x.Ins, x.Ins[0]) },
		func(x *api.Tx) { x.Ins = append(x.Ins, api.In{Ref: api.Ref{At: 5}}) },
		func(x *api.Tx) { x.Ins = append([]api.In{{}}, x.Ins...) },
		func(x *api.Tx) { x.Ins = make([]api.In, 16) },
		func(x *api.Tx) { x.Ins[0].Ref = api.Ref{} },
		func(x *api.Tx) { x.Ins[0].Ref.Tx = api.Sum{} },
		func(x *api.Tx) { x.Ins[0].Ref.Tx[31] = 1 },
		func(x *api.Tx) { x.Ins[0].Ref.Tx[0]++ },
	}
	for _, n := range append([]int{0, 1, 2, 4, 16, 256 + 3, 1<<32 + 3}, far...) {
		l = append(l, func(x *api.Tx) { x.Ins[0].Ref.At = n })
	}
	return l
}

// opChanges change the op so that it is none.
func opChanges() []func(x *api.Tx) {
	var l []func(x *api.Tx)
	for _, n := range append([]int{1, 2, 3, 4, 5, 6, 7, 8, 256, 1 << 32}, far...) {
		l = append(l, func(x *api.Tx) { x.Op.Kind = n })
	}
	return l
}

// outChanges change the outs so that it is none.
func outChanges() []func(x *api.Tx) {
	return []func(x *api.Tx){
		func(x *api.Tx) { x.Outs = nil },
		func(x *api.Tx) { x.Outs = x.Outs[:1] },
		func(x *api.Tx) { x.Outs = x.Outs[1:] },
		func(x *api.Tx) { x.Outs = append(x.Outs, lock.To(1, 0)) },
		func(x *api.Tx) { x.Outs = append(x.Outs, x.Outs[1]) },
		func(x *api.Tx) { x.Outs = append(x.Outs, api.Out{}) },
		func(x *api.Tx) { x.Outs[0], x.Outs[1] = x.Outs[1], x.Outs[0] },
		func(x *api.Tx) { x.Outs[1] = x.Outs[0] },
		func(x *api.Tx) { x.Outs[0] = x.Outs[1] },
		func(x *api.Tx) { x.Outs = make([]api.Out, 2) },
		func(x *api.Tx) { x.Outs[0].Ways = nil },
		func(x *api.Tx) { x.Outs[1].Ways = nil },
		func(x *api.Tx) { x.Outs[0].Ways = x.Outs[0].Ways[:1] },
		func(x *api.Tx) { x.Outs[0].Ways = x.Outs[0].Ways[1:] },
		func(x *api.Tx) { w := x.Outs[0].Ways; w[0], w[1] = w[1], w[0] },
		func(x *api.Tx) { w := x.Outs[0].Ways; w[0] = w[1] },
		func(x *api.Tx) { w := x.Outs[0].Ways; w[1] = w[0] },
		func(x *api.Tx) { w := x.Outs[0].Ways; w[0].Wait, w[1].Wait = w[1].Wait, w[0].Wait },
		func(x *api.Tx) { w := x.Outs[0].Ways; w[0].Hash, w[1].Hash = w[1].Hash, w[0].Hash },
		func(x *api.Tx) { w := x.Outs[0].Ways; w[0].Hash = w[1].Hash },
		func(x *api.Tx) { w := x.Outs[0].Ways; w[0].Keys, w[1].Keys = w[1].Keys, w[0].Keys },
		func(x *api.Tx) { x.Outs[0].Ways = append(x.Outs[0].Ways, api.Way{}) },
		func(x *api.Tx) { x.Outs[0].Ways = append(x.Outs[0].Ways, x.Outs[0].Ways[1]) },
		func(x *api.Tx) { x.Outs[1].Ways = append(x.Outs[1].Ways, api.Way{}) },
		func(x *api.Tx) { x.Outs[1].Ways = x.Outs[0].Ways },
		func(x *api.Tx) { x.Outs[0].Ways[1].Hash = api.Sum{} },
	}
}

// wayChanges change one of the three ways so that it is none, but for the hash of the way by which it is taken.
func wayChanges(at, way int) []func(x *api.Tx) {
	var l []func(x *api.Tx)
	add := func(change func(w *api.Way)) {
		l = append(l, func(x *api.Tx) { change(&x.Outs[at].Ways[way]) })
	}
	for _, keys := range [][]int{nil, {}, {0}, {3}, {255}, {-1}, {256}, {257}, {258}, {1, 2}, {2, 1}, {1, 1}, {2, 2}, {0, 1}, {0, 2}} {
		add(func(w *api.Way) { w.Keys = keys })
	}
	add(func(w *api.Way) { w.Keys = append(w.Keys, 200) })
	for _, n := range append([]int{1, 5, 6, 1 << 30}, far...) {
		add(func(w *api.Way) { w.After = n })
		add(func(w *api.Way) { w.Wait += n })
	}
	if at == 0 && way == 1 {
		return l
	}
	add(func(w *api.Way) { w.Hash = api.Sum{1} })
	add(func(w *api.Way) { w.Hash = api.Sum{31: 1} })
	add(func(w *api.Way) { w.Hash = full() })
	return l
}

// odd are channels that may not be, but have keys from 0 to 255 that are unlike.
func odd() []api.Channel {
	var l []api.Channel
	for _, c := range wrongChannels() {
		if c.Client >= 0 && c.Client <= topKey && c.Peer >= 0 && c.Peer <= topKey && c.Client != c.Peer {
			l = append(l, c)
		}
	}
	return l
}

func Test14_2OwnerOfACommitment(t *testing.T) {
	for _, c := range rightChannels() {
		for _, s := range rightStates(c) {
			for owner := range 2 {
				isOwner(t, "a commitment", c, built(c, s, owner), owner)
			}
			isOwner(t, "in peace", c, inPeace(c, s), api.None)
		}
	}
}

func Test14_2WhatMayBeAny(t *testing.T) {
	for owner := range 2 {
		for i, change := range freeChanges() {
			isOwner(t, fmt.Sprint("free ", i), plain(), changed(owner, change), owner)
		}
		all := changed(owner, func(x *api.Tx) {
			x.Ins[0].Way, x.Ins[0].Pre = -7, make([]byte, 100)
			x.Outs[0].Amount, x.Outs[1].Amount = math.MaxInt64, math.MinInt64
			x.Op.Tower, x.Op.Data = -1, []byte("x")
			x.Signs = make([]api.Sign, 30)
		})
		isOwner(t, "all of that", plain(), all, owner)
	}
}

func Test14_2WhatIsNoCommitment(t *testing.T) {
	l := append(append(inChanges(), opChanges()...), outChanges()...)
	for owner := range 2 {
		for i, change := range l {
			isOwner(t, fmt.Sprint("change ", i), plain(), changed(owner, change), api.None)
		}
	}
	isOwner(t, "nothing", plain(), api.Tx{}, api.None)
	isOwner(t, "nothing of nothing", api.Channel{}, api.Tx{}, api.None)
	isOwner(t, "many", plain(), api.Tx{Ins: make([]api.In, 1000), Outs: make([]api.Out, 1000)}, api.None)
}

func Test14_2WaysAreJustThose(t *testing.T) {
	for _, place := range [][2]int{{0, 0}, {0, 1}, {1, 0}} {
		for owner := range 2 {
			was := built(plain(), plainState(), owner).Outs[place[0]].Ways[place[1]]
			for i, change := range wayChanges(place[0], place[1]) {
				x := changed(owner, change)
				if !reflect.DeepEqual(was, x.Outs[place[0]].Ways[place[1]]) {
					isOwner(t, fmt.Sprint("way ", place, i), plain(), x, api.None)
				}
			}
		}
	}
}

func Test14_2EachBitOfTheFundCounts(t *testing.T) {
	for owner := range 2 {
		for i := range 256 {
			x := changed(owner, func(x *api.Tx) { x.Ins[0].Ref.Tx[i/8] ^= 1 << (i % 8) })
			isOwner(t, fmt.Sprint("bit ", i), plain(), x, api.None)
		}
	}
}

func Test14_2AnyHashButZero(t *testing.T) {
	for owner := range 2 {
		for i := range 256 {
			var hash api.Sum
			hash[i/8] = 1 << (i % 8)
			isOwner(t, fmt.Sprint("bit ", i), plain(), changed(owner, func(x *api.Tx) { x.Outs[0].Ways[1].Hash = hash }), owner)
		}
		isOwner(t, "zero", plain(), changed(owner, func(x *api.Tx) { x.Outs[0].Ways[1].Hash = api.Sum{} }), api.None)
	}
}

func Test14_2OfAnotherChannel(t *testing.T) {
	for i, change := range []func(c *api.Channel){
		func(c *api.Channel) { c.Client = 3 },
		func(c *api.Channel) { c.Peer = 3 },
		func(c *api.Channel) { c.Fund.At = 4 },
		func(c *api.Channel) { c.Fund.Tx[31] = 1 },
		func(c *api.Channel) { c.Wait = 7 },
		func(c *api.Channel) { c.Wait = 0 },
		func(c *api.Channel) { c.Wait = -6 },
		func(c *api.Channel) { c.Wait = 1<<32 + 6 },
	} {
		for owner := range 2 {
			isOwner(t, fmt.Sprint("channel ", i), with(plain(), change), built(plain(), plainState(), owner), api.None)
		}
	}
	swapped := with(plain(), func(c *api.Channel) { c.Client, c.Peer = c.Peer, c.Client })
	for owner := range 2 {
		isOwner(t, "swapped", swapped, built(plain(), plainState(), owner), 1-owner)
	}
}

func Test14_2WhatElseAChannelHasIsNotAsked(t *testing.T) {
	other := with(plain(), func(c *api.Channel) { c.Id, c.Cap, c.Window = -9, math.MinInt64, math.MaxInt })
	for owner := range 2 {
		isOwner(t, "another one", other, built(plain(), plainState(), owner), owner)
	}
}

func Test14_2ChannelsThatMayNotBe(t *testing.T) {
	l := odd()
	if len(l) < 40 {
		t.Fatalf("%d channels", len(l))
	}
	for _, c := range l {
		for _, s := range append(wrongStates(), plainState()) {
			for owner := range 2 {
				want := owner
				if s.Hashes[owner] == (api.Sum{}) {
					want = api.None
				}
				isOwner(t, "a wrong channel", c, built(c, s, owner), want)
			}
		}
	}
}

func Test14_2KeysAre0To255(t *testing.T) {
	for _, n := range append([]int{topKey + 1, 257, 1 << 32, 1<<32 + 5}, far...) {
		for i, c := range []api.Channel{
			with(plain(), func(c *api.Channel) { c.Client = n }),
			with(plain(), func(c *api.Channel) { c.Peer = n }),
			with(plain(), func(c *api.Channel) { c.Client, c.Peer = n, n }),
		} {
			for owner := range 2 {
				isOwner(t, fmt.Sprint("the key ", n, " ", i), c, built(c, plainState(), owner), api.None)
			}
		}
	}
	for _, n := range []int{0, topKey} {
		c := with(plain(), func(c *api.Channel) { c.Client = n })
		d := with(plain(), func(c *api.Channel) { c.Peer = n })
		for owner := range 2 {
			isOwner(t, "an edge of the client's", c, built(c, plainState(), owner), owner)
			isOwner(t, "an edge of the peer's", d, built(d, plainState(), owner), owner)
		}
	}
}

func Test14_2LikeKeysAreTheClients(t *testing.T) {
	for _, key := range []int{0, 1, 128, topKey} {
		c := with(plain(), func(c *api.Channel) { c.Client, c.Peer = key, key })
		for owner := range 2 {
			isOwner(t, "like keys", c, built(c, plainState(), owner), 0)
		}
	}
}

func Test14_2OwnerChangesNothing(t *testing.T) {
	for owner := range 2 {
		x := built(plain(), plainState(), owner)
		for range 3 {
			isOwner(t, "again", plain(), x, owner)
		}
		if want := built(plain(), plainState(), owner); !reflect.DeepEqual(x, want) {
			t.Errorf("%+v, want %+v", x, want)
		}
	}
}

func Test14_3ACommitmentIsItsOwners(t *testing.T) {
	for _, c := range rightChannels() {
		for _, s := range rightStates(c) {
			for owner := range 2 {
				x, e := commit.Build(c, s, owner)
				if e != api.OK {
					t.Fatal(e)
				}
				isOwner(t, "built", c, x, owner)
				signed := tx.Signed(x, c.Client, c.Peer)
				isOwner(t, "signed", c, signed, owner)
				b, e := tx.Bytes(signed)
				back, f := tx.Read(b)
				if e != api.OK || f != api.OK {
					t.Fatal(e, f)
				}
				isOwner(t, "read", c, back, owner)
			}
		}
	}
}

func Test14_3UnlikeHashesMakeUnlikeCommitments(t *testing.T) {
	for owner := range 2 {
		seen := map[api.Sum]int{}
		for i := range 257 {
			s := plainState()
			if i < 256 {
				s.Hashes[owner][i/8] ^= 1 << (i % 8)
			}
			x, e := commit.Build(plain(), s, owner)
			if e != api.OK || !reflect.DeepEqual(x, built(plain(), s, owner)) {
				t.Errorf("bit %d: %+v, %v", i, x, e)
			}
			seen[commit.Ref(x).Tx]++
		}
		if len(seen) != 257 {
			t.Errorf("of %d: %d unlike ones, want 257", owner, len(seen))
		}
	}
}

func Test14_3BothOwnersCommitmentsAreUnlike(t *testing.T) {
	for _, c := range rightChannels() {
		for _, s := range rightStates(c) {
			first, _ := commit.Build(c, s, 0)
			second, _ := commit.Build(c, s, 1)
			peaceful, _ := commit.Close(c, s)
			a, b, p := tx.Sum(first), tx.Sum(second), tx.Sum(peaceful)
			if a == b || a == p || b == p {
				t.Errorf("of %+v: %x, %x, %x", s, a, b, p)
			}
		}
	}
}
