package justice

import (
	"bartizan/api"
	"bartizan/coin"
	"bartizan/commit"
	"bartizan/lock"
	"bartizan/tx"
)

// taking is the way of a commitment's own part by which the other one takes it.
const taking = 1

// Build is the transaction by which the part of a commitment's owner goes to the other one, who signed it, and a tower (None: none) gets its reward.
func Build(c api.Channel, t api.Tx, pre api.Sum, tower int, d Deal) (api.Tx, api.Errno) {
	if commit.Owner(c, t) == api.None || tower < api.None || tower >= api.MaxTowers {
		return api.Tx{}, api.ErrArg
	}
	part := t.Outs[0]
	way := part.Ways[taking]
	if lock.Hash(pre[:]) != way.Hash {
		return api.Tx{}, api.ErrProof
	}
	outs, e := shareOuts(part.Amount, way.Keys[0], tower, d)
	if e != api.OK {
		return api.Tx{}, e
	}
	in := api.In{Ref: commit.Ref(t), Way: taking, Pre: pre[:]}
	return tx.Signed(api.Tx{Ins: []api.In{in}, Outs: outs}, way.Keys...), api.OK
}

// shareOuts are a part in shares: to the victim's key, and to the tower's, if there is one. Without one nothing is kept for it.
func shareOuts(n int64, key, tower int, d Deal) ([]api.Out, api.Errno) {
	if tower == api.None {
		d.Reward = 0
	}
	victim, reward, _, e := Shares(n, d)
	if e != api.OK {
		return nil, e
	}
	outs := []api.Out{lock.To(key, victim)}
	if tower != api.None {
		outs = append(outs, lock.To(Key(tower), reward))
	}
	return outs, api.OK
}

// Check is why a transaction would not take the part of a commitment's owner, at once.
func Check(c api.Channel, t, j api.Tx) api.Errno {
	if commit.Owner(c, t) == api.None || !tx.Right(j) || len(j.Ins) != 1 || j.Op.Kind != api.OpNone {
		return api.ErrArg
	}
	part, in := t.Outs[0], j.Ins[0]
	if in.Ref != commit.Ref(t) || in.Way != taking {
		return api.ErrCoin
	}
	if !lock.Opens(part.Ways[taking], lock.Try{Keys: tx.Keys(j), Pre: in.Pre}) {
		return api.ErrLock
	}
	all, e := together(j.Outs)
	if e != api.OK {
		return e
	}
	if all > part.Amount {
		return api.ErrAmount
	}
	return api.OK
}

// together is what outs come to.
func together(l []api.Out) (int64, api.Errno) {
	var amounts []int64
	for _, o := range l {
		amounts = append(amounts, o.Amount)
	}
	return coin.Add(amounts...)
}
