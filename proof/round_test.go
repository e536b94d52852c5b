package proof_test

import (
	"crypto/sha256"
	"encoding/hex"
	"slices"
	"sync"
	"testing"

	"bartizan/api"
	"bartizan/appoint"
	"bartizan/commit"
	"bartizan/justice"
	"bartizan/many"
	"bartizan/proof"
	"bartizan/receipt"
	"bartizan/secret"
	"bartizan/tx"
)

func Test17_4WhatMayBeIsReadAsItWas(t *testing.T) {
	for _, p := range rightProofs() {
		b, e := proof.Put(p)
		if e != api.OK {
			t.Fatal(e)
		}
		isGot(t, b, p)
		got, _ := proof.Get(b)
		isPut(t, got, b)
	}
}

// Bytes that are read are just those of what was read.
func Test17_4NoOtherBytesAreRead(t *testing.T) {
	good := packed(some())
	for i := range good {
		for _, x := range []byte{1, 2, 64, 128, 255} {
			b := slices.Clone(good)
			b[i] ^= x
			p, e := proof.Get(b)
			if e == api.OK {
				isPut(t, p, b)
			}
			if isSame(p, some()) {
				t.Errorf("other bytes are read as it, by the byte %d", i)
			}
		}
	}
}

// These bytes, and roots, come of the document's words in another language.
func Test17_4KnownProofs(t *testing.T) {
	for _, k := range []struct {
		c            api.Channel
		state        int
		part         int64
		seed         api.Sum
		tower        int
		d            justice.Deal
		key          api.Sum
		leaves, leaf int
		root, bytes  string
	}{
		{plain(), 7, 40, api.Sum{2}, 3, plainDeal(), api.Sum{9}, 1, 0,
			"d34156d1ae00b53d6fbac19bdcbb49f32a9f004556205ec8b8eeffb9c74fb122", "d6dd1bfe4ddefb6e5b2b222dd23f376c926e4da5aec4e5aa13d4c120fdce5022"},
		{api.Channel{Id: 300, Client: 128, Peer: 200, Fund: api.Ref{Tx: full(), At: 15}, Cap: topAmount, Wait: 65536, Window: 65535}, topNumber, topAmount, full(), 15, justice.Deal{Reward: 1000}, risingSum(), 5, 4,
			"dcbccafe44adf25a43cce6d420ad508acfeba5cc5e61522600b8a929bfdbd5ad", "82d02addba76c57f0f9651e53ea42023cf92519cc8e4336ed519c0f968bc7217"},
		{api.Channel{Id: topNumber, Client: 255, Cap: 3, Wait: 2, Window: 1}, 0, 2, api.Sum{}, 0, justice.Deal{Reward: 333, Fee: 1}, api.Sum{}, 64, 63,
			"7999613d53dafb62fb89e60beac8c6d964845b399aaa2c7f3a638de2c71b39b7", "dc67785f61fd35a1a15c058ad2ca3236e318f73687e517f7e79c834f7d522435"},
	} {
		s := stateOf(k.c, k.state, k.part)
		s.Hashes[1] = secret.Point(k.seed, k.state)
		cheat, _ := commit.Build(k.c, s, 1)
		j, e := justice.Build(k.c, cheat, secret.Of(k.seed, k.state), k.tower, k.d)
		if e != api.OK {
			t.Fatal(e)
		}
		p, root := proofOf(t, k.c, k.state, cheat, j, k.tower, k.key, k.leaves, k.leaf)
		b, e := proof.Put(p)
		sum := sha256.Sum256(b)
		if e != api.OK || hex.EncodeToString(sum[:]) != k.bytes || hex.EncodeToString(root[:]) != k.root {
			t.Errorf("of %+v: %d bytes, summed to %x, under %x, %v", k.c, len(b), sum, root, e)
		}
		f := proof.Facts{Commit: cheat, At: 9}
		if e := proof.Check(p, k.tower, k.c, root, f, 10+k.c.Window); e != api.OK {
			t.Errorf("of %+v: %v", k.c, e)
		}
	}
}

// proofOf is a proof by what a tower signs, by a leaf of its key, for a job; and the key's root.
func proofOf(t *testing.T, c api.Channel, state int, cheat, j api.Tx, tower int, seed api.Sum, leaves, leaf int) (api.Proof, api.Sum) {
	t.Helper()
	k, e := many.New(seed, leaves)
	if e != api.OK || k.Skip(leaf) != api.OK {
		t.Fatal("there is no such leaf")
	}
	job, e := appoint.Make(c.Id, state, tx.Sum(cheat), j)
	if e != api.OK {
		t.Fatal(e)
	}
	r := job.Receipt(tower)
	sig, e := receipt.Sign(k, r)
	if e != api.OK {
		t.Fatal(e)
	}
	return api.Proof{Receipt: r, Sig: sig, Blob: job.Blob, Commit: tx.Sum(cheat)}, k.Root()
}

// A proof of as great an answer as may be is read, too, and holds.
func Test17_4TheGreatestAnswer(t *testing.T) {
	c := plain()
	c.Cap = topAmount
	x := heldOf(t, c, topNumber, topAmount, topTower)
	way := api.Way{Keys: []int{0, 1, 2, 3, 4, 5, 6, 7, 128, 129, 130, 131, 132, 133, 134, 255}, Hash: full(), After: 1 << 30, Wait: 1 << 30}
	j := answer(t, c, x.f.Commit, topNumber, topTower, plainDeal())
	j.Outs, j.Signs = nil, nil
	for range 16 {
		j.Outs = append(j.Outs, api.Out{Amount: topAmount / 16, Ways: slices.Repeat([]api.Way{way}, 16)})
	}
	x.cover(t, tx.Signed(j, 0, 1, 2, 3, 4, 5, 6, 7, 8, 9, 10, 11, 12, 13, 14, 255))
	b, e := proof.Put(x.p)
	if e != api.OK {
		t.Fatal(e)
	}
	isTold(t, "as it is put together", x, api.OK)
	x.p, e = proof.Get(b)
	if e != api.OK {
		t.Fatal(e)
	}
	isTold(t, "as it is read", x, api.OK)
}

// A proof that was read holds as the one that was put did, and fails as that.
func Test17_4WhatIsReadHolds(t *testing.T) {
	for i, x := range []play{held(t), heldOf(t, plain(), 0, 0, 0), heldOf(t, plain(), topNumber, 100, topTower)} {
		b, e := proof.Put(x.p)
		if e != api.OK {
			t.Fatal(e)
		}
		x.p, e = proof.Get(b)
		if e != api.OK {
			t.Fatal(e)
		}
		isTold(t, "read", x, api.OK)
		x.tower++
		isTold(t, "read, of another tower", x, api.ErrTower)
		x.tower--
		x.p.Blob[i] ^= 1
		isTold(t, "read, and changed", x, api.ErrProof)
	}
}

// What a proof that holds shows, one by one.
func Test17_4WhatAProofShows(t *testing.T) {
	for _, c := range channels() {
		x := heldOf(t, c, 7, c.Cap, 3)
		isTold(t, "it holds", x, api.OK)
		j, e := appoint.Uncover(x.p.Commit, x.p.Blob)
		if e != api.OK || justice.Check(c, x.f.Commit, j) != api.OK {
			t.Error("what the receipt names would not have taken the part")
		}
		if !receipt.Verify(x.root, x.p.Receipt, x.p.Sig) {
			t.Error("the receipt is not verified")
		}
		if commit.Owner(c, x.f.Commit) != 1 || tx.Sum(x.f.Commit) != x.p.Commit {
			t.Error("what came is not the peer's commitment")
		}
		if x.f.Saved(c) {
			t.Error("somebody took the part in time")
		}
	}
}

// A tower that acts in time is not to be blamed, whichever of its receipts is shown; one that does not is.
func Test17_4ATowerThatActsIsSafe(t *testing.T) {
	acts := held(t)
	acts.f.Taken, acts.f.When = true, acts.f.At+acts.c.Window
	for height := acts.f.At; height < acts.f.At+50; height++ {
		acts.height = height
		isTold(t, "it acted", acts, api.ErrSaved)
	}
	sleeps := held(t)
	for height := sleeps.f.At; height < sleeps.f.At+50; height++ {
		sleeps.height = height
		want := api.OK
		if height <= sleeps.f.At+sleeps.c.Window {
			want = api.ErrEarly
		}
		isTold(t, "it slept", sleeps, want)
	}
	other := heldOf(t, plain(), 6, 60, 3)
	other.f.Commit = sleeps.f.Commit
	isTold(t, "a receipt of another state", other, api.ErrCoin)
	other.p.Commit = sleeps.p.Commit
	isTold(t, "a receipt of another state, under what came", other, api.ErrProof)
}

// No call hangs on another one, done ahead or at the same time.
func Test17_4NothingIsKept(t *testing.T) {
	good, p := held(t), some()
	other := held(t)
	other.root[3] ^= 1
	var all sync.WaitGroup
	for i := range 8 {
		all.Go(func() {
			for n := range 40 {
				isTold(t, "one of many", good, api.OK)
				isTold(t, "one of many, under another root", other, api.ErrSign)
				isGot(t, packed(p), p)
				isPut(t, p, packed(p))
				isRefused(t, packed(p)[:n+i], api.ErrShort)
				isNotPut(t, api.Proof{Receipt: api.Receipt{Tower: 16 + n}}, api.ErrArg)
			}
		})
	}
	all.Wait()
}
