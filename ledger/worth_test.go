package ledger_test

import (
	"cmp"
	"maps"
	"math/rand"
	"slices"
	"testing"

	"bartizan/api"
	"bartizan/commit"
	"bartizan/ledger"
	"bartizan/lock"
	"bartizan/proof"
	"bartizan/secret"
	"bartizan/tx"
	"bartizan/view"
)

// account is what a model knows of a tower.
type account struct {
	root          api.Sum
	locked, asked int64
	at            int
	held          map[int]api.Channel
	proved        map[int]int // at which height a proof began to wait
}

// model is a ledger by plain lists: a second one, which is held against the first.
type model struct {
	coins  map[api.Ref]view.Coin
	spends map[api.Ref]ledger.Spend
	came   map[api.Sum]ledger.Done
	towers map[int]account
	fees   int64
}

// modelOf is a model of outs that came first.
func modelOf(id api.Sum, outs []api.Out) *model {
	m := &model{coins: map[api.Ref]view.Coin{}, spends: map[api.Ref]ledger.Spend{}, came: map[api.Sum]ledger.Done{}, towers: map[int]account{}}
	m.came[id] = ledger.Done{Tx: api.Tx{Outs: outs}}
	for i, o := range outs {
		m.coins[at(id, i)] = view.Coin{Out: o}
	}
	return m
}

// copied is a model that is alike.
func (m *model) copied() *model {
	n := &model{coins: maps.Clone(m.coins), spends: maps.Clone(m.spends), came: maps.Clone(m.came), towers: map[int]account{}, fees: m.fees}
	for i, a := range m.towers {
		a.held, a.proved = maps.Clone(a.held), maps.Clone(a.proved)
		n.towers[i] = a
	}
	return n
}

// free is what of an account is free.
func (a account) free() int64 {
	all := a.locked - a.asked
	for _, c := range a.held {
		all -= c.Cap
	}
	return all
}

// apply answers the model behind a transaction, or the error.
func (m *model) apply(x api.Tx, height int) (*model, api.Errno) {
	if !tx.Right(x) || height < 0 || height > topHeight {
		return nil, api.ErrArg
	}
	id := tx.Sum(x)
	if _, twice := m.came[id]; twice {
		return nil, api.ErrTwice
	}
	n := m.copied()
	var left int64
	for _, in := range x.Ins {
		c, ok := n.coins[in.Ref]
		if !ok {
			return nil, api.ErrCoin
		}
		if len(c.Ways) <= in.Way || !lock.Opens(c.Ways[in.Way], lock.Try{Keys: tx.Keys(x), Pre: in.Pre, Height: height, Age: height - c.Height}) {
			return nil, api.ErrLock
		}
		delete(n.coins, in.Ref)
		n.spends[in.Ref] = ledger.Spend{By: id, Way: in.Way, Height: height}
		left += c.Amount
	}
	more, e := n.act(x, height)
	if e != api.OK {
		return nil, e
	}
	left += more
	for i, o := range x.Outs {
		left -= o.Amount
		n.coins[at(id, i)] = view.Coin{Out: o, Height: height}
	}
	if left < 0 {
		return nil, api.ErrAmount
	}
	n.fees += left
	n.came[id] = ledger.Done{Tx: x, Height: height}
	return n, api.OK
}

// act does the op, and answers how much comes out; what goes in is below 0.
func (m *model) act(x api.Tx, height int) (int64, api.Errno) {
	o := x.Op
	a, known := m.towers[o.Tower]
	c, held := a.held[o.Channel]
	since, waits := a.proved[o.Channel]
	if o.Kind == api.OpNone {
		return 0, api.OK
	}
	if o.Kind == api.OpFree || o.Kind == api.OpProve || o.Kind == api.OpSettle {
		if !held {
			return 0, api.ErrNone
		}
		if !slices.Contains(tx.Keys(x), c.Client) {
			return 0, api.ErrSign
		}
	} else if !slices.Contains(tx.Keys(x), 100+o.Tower) {
		return 0, api.ErrSign
	}
	var out int64
	switch o.Kind {
	case api.OpBond:
		if o.Amount < 1 || o.Root == (api.Sum{}) {
			return 0, api.ErrArg
		}
		if known && a.root != o.Root {
			return 0, api.ErrTwice
		}
		if !known {
			a = account{root: o.Root, held: map[int]api.Channel{}, proved: map[int]int{}}
		}
		a.locked += o.Amount
		out = -o.Amount
	case api.OpHold:
		c, e := ledger.ReadChannel(o.Data)
		if e != api.OK {
			return 0, e
		}
		if c.Id != o.Channel {
			return 0, api.ErrArg
		}
		if !known {
			return 0, api.ErrTower
		}
		if held {
			return 0, api.ErrTwice
		}
		if c.Cap > a.free() {
			return 0, api.ErrBond
		}
		a.held[c.Id] = c
	case api.OpAsk:
		if !known {
			return 0, api.ErrTower
		}
		if a.asked > 0 {
			return 0, api.ErrState
		}
		if o.Amount < 1 || o.Amount > a.free() {
			return 0, api.ErrBond
		}
		a.asked, a.at = o.Amount, height
	case api.OpTake:
		if !known {
			return 0, api.ErrTower
		}
		if a.asked == 0 {
			return 0, api.ErrNone
		}
		if height < a.at+12 {
			return 0, api.ErrEarly
		}
		out = a.asked
		a.locked, a.asked, a.at = a.locked-out, 0, 0
	case api.OpFree:
		if waits {
			return 0, api.ErrState
		}
		delete(a.held, o.Channel)
	case api.OpProve:
		if e := m.proves(o, c, a.root, height); e != api.OK {
			return 0, e
		}
		if waits {
			return 0, api.ErrState
		}
		a.proved[o.Channel] = height
	case api.OpSettle:
		if !waits {
			return 0, api.ErrNone
		}
		if height < since+3 {
			return 0, api.ErrEarly
		}
		if len(x.Outs) < 1 || !lock.Same(x.Outs[0], lock.To(c.Client, c.Cap)) {
			return 0, api.ErrAmount
		}
		out = c.Cap
		a.locked -= out
		delete(a.held, o.Channel)
		delete(a.proved, o.Channel)
	}
	m.towers[o.Tower] = a
	return out, api.OK
}

// proves is why what an op shows does not hold.
func (m *model) proves(o api.Op, c api.Channel, root api.Sum, height int) api.Errno {
	p, e := proof.Get(o.Data)
	if e != api.OK {
		return e
	}
	d, ok := m.came[p.Commit]
	if !ok {
		return api.ErrCoin
	}
	f := proof.Facts{Commit: d.Tx, At: d.Height}
	if s := m.spends[at(p.Commit, 0)]; s.Way == 1 {
		f.Taken, f.When = true, s.Height
	}
	return proof.Check(p, o.Tower, c, root, f, height)
}

// stage is what a play by chance picks from.
type stage struct {
	chance   *rand.Rand
	channels []api.Channel
	commits  []api.Tx
	proofs   map[[2]int][][]byte // by tower and channel
	answers  []api.Tx
	steps    int
}

// stagedBy is a ledger, its model, and what is picked from: four channels, states of them, and what towers signed for them.
func stagedBy(t *testing.T, seed int64) (*ledger.Ledger, *model, *stage) {
	t.Helper()
	s := &stage{chance: rand.New(rand.NewSource(seed)), proofs: map[[2]int][][]byte{}}
	outs := slices.Repeat([]api.Out{commit.Fund(plain())}, 4)
	for _, key := range []int{1, 2, 103, 104, 105, 1, 2, 103, 104, 105} {
		outs = append(outs, lock.To(key, 400))
	}
	l, first := started(t, outs...)
	for id := range 4 {
		c := plain()
		c.Id, c.Fund = id, at(first, id)
		s.channels = append(s.channels, c)
		s.commits = append(s.commits, commitment(t, c, id, 60, 0))
		for n := range 2 {
			came := commitment(t, c, n, int64(50+n), 1)
			s.commits = append(s.commits, came)
			for tower := 3; tower <= 5; tower++ {
				j := answer(t, c, came, n, tower)
				s.answers = append(s.answers, j)
				s.proofs[[2]int{tower, id}] = append(s.proofs[[2]int{tower, id}], proofData(t, shown(t, c, came, j, n, tower)))
			}
		}
	}
	return l, modelOf(first, outs), s
}

// pick is one of a list.
func pick[T any](s *stage, l []T) T {
	return l[s.chance.Intn(len(l))]
}

// key is one of the keys that are in the play.
func (s *stage) key() int {
	return pick(s, []int{1, 2, 103, 104, 105})
}

// signed is a transaction that those signed who must, or all, or nobody, or others.
func (s *stage) signed(x api.Tx, keys ...int) api.Tx {
	switch s.chance.Intn(12) {
	case 0:
		return x
	case 1:
		return tx.Signed(x, s.key())
	case 2:
		return tx.Signed(x, 1, 2, 103, 104, 105)
	}
	return tx.Signed(x, keys...)
}

// places are where coins are, in order, but for those that fund channels.
func (m *model) places() []api.Ref {
	l := slices.SortedFunc(maps.Keys(m.coins), func(a, b api.Ref) int {
		return cmp.Or(slices.Compare(a.Tx[:], b.Tx[:]), a.At-b.At)
	})
	return slices.DeleteFunc(l, func(r api.Ref) bool { return lock.Same(m.coins[r].Out, commit.Fund(plain())) })
}

// pay is a transaction that spends coins that are there, to as many keys, for a fee.
func (s *stage) pay(m *model) api.Tx {
	var x api.Tx
	var all int64
	var keys []int
	refs := slices.SortedFunc(maps.Keys(m.coins), func(a, b api.Ref) int {
		return slices.Compare(append(a.Tx[:], byte(a.At)), append(b.Tx[:], byte(b.At)))
	})
	for range s.chance.Intn(3) {
		if len(refs) == 0 {
			break
		}
		r := pick(s, refs)
		c := m.coins[r]
		way := s.chance.Intn(len(c.Ways) + s.chance.Intn(20)/19)
		x.Ins = append(x.Ins, api.In{Ref: r, Way: way, Pre: s.pre()})
		all += c.Amount
		keys = append(keys, c.Ways[way%len(c.Ways)].Keys...)
	}
	all = max(0, all+int64(s.chance.Intn(5)-3))
	for all > 0 && len(x.Outs) < 3 {
		n := min(all, 1+s.chance.Int63n(all+1))
		x.Outs = append(x.Outs, api.Out{Amount: n, Ways: []api.Way{{Keys: []int{s.key()}, Wait: s.chance.Intn(2) * s.chance.Intn(5)}, {Keys: []int{s.key()}}}[:1+s.chance.Intn(2)]})
		all -= n
	}
	return s.signed(x, keys...)
}

// pre is a secret of a state of the peer, or nothing.
func (s *stage) pre() []byte {
	if s.chance.Intn(3) > 0 {
		return nil
	}
	pre := secret.Of(api.Sum{2}, s.chance.Intn(2))
	return pre[:]
}

// proofOf is a proof against a tower for a channel, or, at times, against any one for any.
func (s *stage) proofOf(tower, channel int) []byte {
	if s.chance.Intn(8) == 0 {
		tower, channel = 3+s.chance.Intn(3), s.chance.Intn(4)
	}
	return pick(s, s.proofs[[2]int{tower, channel}])
}

// op is a transaction that does something.
func (s *stage) op(t *testing.T, m *model) api.Tx {
	tower, c := 3+s.chance.Intn(3), pick(s, s.channels)
	key := 100 + tower
	s.steps++
	o := api.Op{Kind: pick(s, []int{1, 2, 2, 2, 3, 4, 5, 6, 6, 6, 6, 7, 7}), Tower: tower, Channel: c.Id}
	var outs []api.Out
	switch o.Kind {
	case api.OpBond:
		x := s.pay(m)
		x.Signs = nil
		o.Amount, o.Root = int64(s.chance.Intn(300)), rootOf(t, tower)
		if s.chance.Intn(10) == 0 {
			o.Root = pick(s, []api.Sum{{}, {1}})
		}
		x.Op, x.Outs = o, nil
		return s.signed(x, 1, 2, 103, 104, 105)
	case api.OpHold:
		o.Data, o.Amount = bytesOf(c), int64(s.steps)
	case api.OpAsk:
		o.Amount = int64(s.chance.Intn(200))
	case api.OpTake:
		o.Amount = int64(s.steps)
		if a := m.towers[tower]; a.asked > 0 {
			outs = []api.Out{lock.To(key, max(0, a.asked+int64(s.chance.Intn(3)-1)))}
		}
	case api.OpProve:
		o.Data, o.Amount, key = s.proofOf(tower, c.Id), int64(s.steps), c.Client
	case api.OpSettle:
		o.Amount, key = int64(s.steps), c.Client
		outs = []api.Out{lock.To(c.Client, c.Cap-int64(s.chance.Intn(6)/5))}
	default:
		o.Amount, key = int64(s.steps), c.Client
	}
	return s.signed(api.Tx{Op: o, Outs: outs}, key)
}

// hirings are how a play begins: towers lock most of what they have, and hold for some channels.
func (s *stage) hirings(t *testing.T, m *model) []api.Tx {
	var l []api.Tx
	for _, r := range m.places() {
		for tower := 3; tower <= 5; tower++ {
			if lock.Sole(m.coins[r].Out, 100+tower) && len(l) < 6 {
				x := spending([]api.Ref{r}, lock.To(100+tower, 50))
				x.Op = bondOp(t, tower, 340)
				l = append(l, tx.Signed(x, 100+tower))
			}
		}
	}
	for i, c := range s.channels {
		l = append(l, doing(holdOp(3+i%3, c), 103+i%3), doing(holdOp(3+(i+1)%3, c), 103+(i+1)%3))
	}
	return l
}

// next is what is tried next.
func (s *stage) next(t *testing.T, m *model) api.Tx {
	switch s.chance.Intn(20) {
	case 0:
		return pick(s, s.commits)
	case 1:
		return pick(s, s.answers)
	case 2, 3, 4, 5, 6, 7, 8:
		return s.pay(m)
	}
	return s.op(t, m)
}

// isModel holds a ledger against its model.
func isModel(t *testing.T, l *ledger.Ledger, m *model) {
	t.Helper()
	if l.Len() != len(m.coins) || len(l.Order()) != len(m.came) || l.Fees() != m.fees || l.Worth() != 4400 {
		t.Fatalf("%d coins, %d came, %d fees, worth %d; want %d, %d, %d, 4400", l.Len(), len(l.Order()), l.Fees(), l.Worth(), len(m.coins), len(m.came), m.fees)
	}
	for r, c := range m.coins {
		isCoin(t, l, r, c.Out, c.Height)
		isUnspent(t, l, r)
	}
	for r, s := range m.spends {
		isSpent(t, l, r, s)
	}
	for id, d := range m.came {
		if got, ok := l.Done(id); !ok || got.Height != d.Height || !isSameTx(got.Tx, d.Tx) {
			t.Errorf("%x came as %v, %v", id[:4], got, ok)
		}
	}
	for tower := range topTower + 1 {
		a, known := m.towers[tower]
		got, ok := l.Board.Get(tower)
		if ok != known || got.Root != a.root || got.Locked != a.locked || got.Asked != a.asked || got.At != a.at || l.Free(tower) != a.free() {
			t.Errorf("the tower %d has %v, want %v", tower, got, a)
		}
		for id := range 5 {
			h, ok := l.Holds(tower, id)
			c, held := a.held[id]
			since, waits := a.proved[id]
			if ok != held || h.Channel != c || h.Proved != waits || h.At != since {
				t.Errorf("the tower %d holds %v for %d", tower, h, id)
			}
		}
	}
}

// isLostRightly holds that behind a transaction a tower has less locked only if it took it, or if a proof had held.
func isLostRightly(t *testing.T, before, behind *model, x api.Tx) {
	t.Helper()
	for tower, a := range before.towers {
		lost := a.locked - behind.towers[tower].locked
		if lost <= 0 {
			continue
		}
		if tower != x.Op.Tower {
			t.Errorf("the tower %d lost %d by an op of %d", tower, lost, x.Op.Tower)
		}
		_, waited := a.proved[x.Op.Channel]
		switch {
		case x.Op.Kind == api.OpTake && a.asked == lost:
		case x.Op.Kind == api.OpSettle && waited && a.held[x.Op.Channel].Cap == lost:
		default:
			t.Errorf("the tower %d lost %d by an op of the kind %d", tower, lost, x.Op.Kind)
		}
	}
}

// Plays by a fixed row of chance, against the model: each transaction has the model's error, and what there is stays.
func Test18_4WorthStaysWhateverComes(t *testing.T) {
	kinds, errors := map[int]int{}, map[api.Errno]int{}
	for seed := range int64(12) {
		l, m, s := stagedBy(t, seed)
		height := 0
		begin := s.hirings(t, m)
		for step := range 600 {
			x := s.next(t, m)
			if step < len(begin) {
				x = begin[step]
			}
			height += s.chance.Intn(8) / 6
			now := height - s.chance.Intn(30)/29*s.chance.Intn(4)
			n, want := m.apply(x, now)
			if got := l.Apply(x, now); got != want {
				t.Fatalf("seed %d, step %d at %d: %v, want %v of %+v", seed, step, now, got, want, x)
			}
			errors[want]++
			if want == api.OK {
				isLostRightly(t, m, n, x)
				m = n
				kinds[x.Op.Kind]++
			}
			if step%20 == 0 {
				l = l.Clone()
				isModel(t, l, m)
			}
		}
		isModel(t, l, m)
	}
	for kind := range 8 {
		if kinds[kind] < 5 {
			t.Errorf("of the kind %d there came %d", kind, kinds[kind])
		}
	}
	t.Log(kinds, errors)
}
