package justice_test

import (
	"bytes"
	"math"
	"reflect"
	"slices"

	"bartizan/api"
	"bartizan/commit"
	"bartizan/justice"
	"bartizan/lock"
	"bartizan/tx"
)

// full is the sum all of whose bits are 1.
func full() api.Sum {
	var s api.Sum
	for i := range s {
		s[i] = 0xff
	}
	return s
}

// risingSum is the sum of the bytes 0 to 31.
func risingSum() api.Sum {
	var s api.Sum
	for i := range s {
		s[i] = byte(i)
	}
	return s
}

// plain is a channel of 100.
func plain() api.Channel {
	return api.Channel{Id: 1, Client: 1, Peer: 2, Fund: api.Ref{Tx: api.Sum{7}, At: 3}, Cap: 100, Wait: 6, Window: 4}
}

// plainDeal is a deal of a fee of 10, and 100 thousandths.
func plainDeal() justice.Deal {
	return justice.Deal{Reward: 100, Fee: 10}
}

// keysOf are the owner's key, and the other one's.
func keysOf(c api.Channel, owner int) (own, other int) {
	if owner == 1 {
		return c.Peer, c.Client
	}
	return c.Client, c.Peer
}

// commitment is one that is put together by hand, and that a secret takes back.
func commitment(c api.Channel, owner int, own, rest int64, pre api.Sum) api.Tx {
	key, other := keysOf(c, owner)
	return api.Tx{
		Ins: []api.In{{Ref: c.Fund}},
		Outs: []api.Out{
			{Amount: own, Ways: []api.Way{{Keys: []int{key}, Wait: c.Wait}, {Keys: []int{other}, Hash: lock.Hash(pre[:])}}},
			{Amount: rest, Ways: []api.Way{{Keys: []int{other}}}},
		},
	}
}

// cheat is the peer's commitment of the plain channel, of 100.
func cheat() api.Tx {
	return commitment(plain(), 1, 100, 0, risingSum())
}

// paid is an out to a key, put together by hand.
func paid(key int, n int64) api.Out {
	return api.Out{Amount: n, Ways: []api.Way{{Keys: []int{key}}}}
}

// signedBy is a transaction that just these keys signed.
func signedBy(j api.Tx, keys ...int) api.Tx {
	j.Signs = nil
	for _, key := range keys {
		j.Signs = append(j.Signs, api.Sign{Key: key, Of: tx.Sum(j)})
	}
	return j
}

// taken is what takes a commitment's own part by a secret, put together by hand.
func taken(of api.Tx, key int, pre api.Sum, outs ...api.Out) api.Tx {
	in := api.In{Ref: api.Ref{Tx: tx.Sum(of)}, Way: 1, Pre: pre[:]}
	return signedBy(api.Tx{Ins: []api.In{in}, Outs: outs}, key)
}

// takenOf is what must be built of a commitment, by the shares that must be.
func takenOf(c api.Channel, owner int, of api.Tx, pre api.Sum, tower int, d justice.Deal) api.Tx {
	_, key := keysOf(c, owner)
	if tower == -1 {
		d.Reward = 0
	}
	victim, reward, _ := modelShares(of.Outs[0].Amount, d)
	if tower == -1 {
		return taken(of, key, pre, paid(key, victim))
	}
	return taken(of, key, pre, paid(key, victim), paid(100+tower, reward))
}

// changed is a transaction of which something is changed, in other memory.
func changed(x api.Tx, change func(x *api.Tx)) api.Tx {
	x = copied(x)
	change(&x)
	return x
}

// copied is a transaction that is alike, and shares no memory.
func copied(x api.Tx) api.Tx {
	x.Ins, x.Outs, x.Signs = slices.Clone(x.Ins), slices.Clone(x.Outs), slices.Clone(x.Signs)
	for i := range x.Ins {
		x.Ins[i].Pre = bytes.Clone(x.Ins[i].Pre)
	}
	for i := range x.Outs {
		x.Outs[i].Ways = slices.Clone(x.Outs[i].Ways)
		for j, w := range x.Outs[i].Ways {
			x.Outs[i].Ways[j].Keys = slices.Clone(w.Keys)
		}
	}
	x.Op.Data = bytes.Clone(x.Op.Data)
	return x
}

// isNothing tells whether a transaction has nothing.
func isNothing(x api.Tx) bool {
	return len(x.Ins)+len(x.Outs)+len(x.Signs)+len(x.Op.Data) == 0 && reflect.DeepEqual(x.Op, api.Op{})
}

// channels are some that may be, and some that may not be, of which there are commitments all the same.
func channels() []api.Channel {
	var l []api.Channel
	add := func(change func(c *api.Channel)) {
		c := plain()
		change(&c)
		l = append(l, c)
	}
	add(func(c *api.Channel) {})
	for _, keys := range [][2]int{{2, 1}, {0, 1}, {1, 0}, {0, topKey}, {topKey, 0}, {127, 128}, {100, 115}, {107, 3}} {
		add(func(c *api.Channel) { c.Client, c.Peer = keys[0], keys[1] })
	}
	add(func(c *api.Channel) { c.Fund = api.Ref{} })
	add(func(c *api.Channel) { c.Fund = api.Ref{Tx: full(), At: 15} })
	add(func(c *api.Channel) { c.Window, c.Wait = 65535, 65536 })
	add(func(c *api.Channel) { c.Id, c.Cap, c.Window, c.Wait = -1, -1, 9, 0 })
	add(func(c *api.Channel) { c.Fund.At, c.Wait = -7, math.MaxInt })
	return l
}

// isCommitment tells whether a transaction is a commitment of a channel.
func isCommitment(c api.Channel, x api.Tx) bool {
	return commit.Owner(c, x) != api.None
}

// oddChanges change of the plain channel's commitment what may be any.
func oddChanges() []func(x *api.Tx) {
	return []func(x *api.Tx){
		func(x *api.Tx) {},
		func(x *api.Tx) { x.Ins[0].Pre = []byte("shown") },
		func(x *api.Tx) { x.Ins[0].Pre = make([]byte, 1000) },
		func(x *api.Tx) { x.Ins[0].Way = 5 },
		func(x *api.Tx) { x.Ins[0].Way = math.MinInt },
		func(x *api.Tx) { x.Outs[1].Amount = math.MinInt64 },
		func(x *api.Tx) { x.Outs[1].Amount = math.MaxInt64 },
		func(x *api.Tx) { x.Signs = make([]api.Sign, 30) },
		func(x *api.Tx) { *x = tx.Signed(*x, 1, 2) },
		func(x *api.Tx) {
			x.Op = api.Op{Tower: 3, Channel: 9, Amount: 9, Root: full(), Data: make([]byte, 70000)}
		},
	}
}

// noCommitments change the plain channel's commitment so that it is none.
func noCommitments() []func(x *api.Tx) {
	return []func(x *api.Tx){
		func(x *api.Tx) { *x = api.Tx{} },
		func(x *api.Tx) { x.Ins = nil },
		func(x *api.Tx) { x.Ins = append(x.Ins, api.In{}) },
		func(x *api.Tx) { x.Ins[0].Ref.At++ },
		func(x *api.Tx) { x.Ins[0].Ref.Tx[31] ^= 1 },
		func(x *api.Tx) { x.Outs = nil },
		func(x *api.Tx) { x.Outs = x.Outs[:1] },
		func(x *api.Tx) { x.Outs = append(x.Outs, paid(1, 0)) },
		func(x *api.Tx) { x.Outs[0].Ways = nil },
		func(x *api.Tx) { x.Outs[0].Ways = x.Outs[0].Ways[:1] },
		func(x *api.Tx) { x.Outs[0].Ways = x.Outs[0].Ways[1:] },
		func(x *api.Tx) { x.Outs[0].Ways[1].Keys = nil },
		func(x *api.Tx) { x.Outs[0].Ways[1].Keys = []int{1, 2} },
		func(x *api.Tx) { x.Outs[0].Ways[1].Keys[0] = 2 },
		func(x *api.Tx) { x.Outs[0].Ways[1].Hash = api.Sum{} },
		func(x *api.Tx) { x.Outs[0].Ways[1].Wait = 1 },
		func(x *api.Tx) { x.Outs[0].Ways[1].After = 1 },
		func(x *api.Tx) { x.Outs[0].Ways[0].Wait++ },
		func(x *api.Tx) { x.Outs[1] = x.Outs[0] },
		func(x *api.Tx) { x.Op.Kind = 1 },
		func(x *api.Tx) { x.Op.Kind = -1 },
	}
}
