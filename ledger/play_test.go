package ledger_test

import (
	"bytes"
	"crypto/sha256"
	"reflect"
	"slices"
	"testing"

	"bartizan/api"
	"bartizan/appoint"
	"bartizan/bond"
	"bartizan/commit"
	"bartizan/justice"
	"bartizan/ledger"
	"bartizan/lock"
	"bartizan/many"
	"bartizan/proof"
	"bartizan/receipt"
	"bartizan/secret"
	"bartizan/tx"
	"bartizan/view"
)

// The greatest ones that may be, written out.
const (
	topAmount = 1125899906842624
	topHeight = 1073741824
	topNumber = 1048576 // of a channel
	topTower  = 15
	topList   = 16
)

// full is the sum all of whose bits are 1.
func full() api.Sum {
	var s api.Sum
	for i := range s {
		s[i] = 0xff
	}
	return s
}

// num is a number's bytes.
func num(n int) []byte {
	var b []byte
	for ; n >= 128; n /= 128 {
		b = append(b, byte(n%128+128))
	}
	return append(b, byte(n))
}

// nums are the bytes of numbers, one behind the other.
func nums(l ...int) []byte {
	var b []byte
	for _, n := range l {
		b = append(b, num(n)...)
	}
	return b
}

// idOf is the sum of a transaction without an op, by the library's SHA-256.
func idOf(x api.Tx) api.Sum {
	b := num(len(x.Ins))
	for _, in := range x.Ins {
		b = append(append(b, in.Ref.Tx[:]...), nums(in.Ref.At, in.Way)...)
	}
	b = append(b, num(len(x.Outs))...)
	for _, o := range x.Outs {
		b = append(b, nums(int(o.Amount), len(o.Ways))...)
		for _, w := range o.Ways {
			b = append(append(append(b, num(len(w.Keys))...), nums(w.Keys...)...), w.Hash[:]...)
			b = append(b, nums(w.After, w.Wait)...)
		}
	}
	b = append(append(append(b, 0, 0, 0, 0), make([]byte, 32)...), 0)
	n := len(b)
	return sha256.Sum256(append([]byte{41, byte(n >> 24), byte(n >> 16), byte(n >> 8), byte(n)}, b...))
}

// started is a ledger of outs, and the sum of the transaction that came first.
func started(t *testing.T, outs ...api.Out) (*ledger.Ledger, api.Sum) {
	t.Helper()
	l, id, e := ledger.New(outs...)
	if e != api.OK || l == nil {
		t.Fatalf("%d outs: %v", len(outs), e)
	}
	return l, id
}

// at is a place of a transaction.
func at(id api.Sum, n int) api.Ref {
	return api.Ref{Tx: id, At: n}
}

// spending is a transaction that spends places by their way 0, and has outs.
func spending(refs []api.Ref, outs ...api.Out) api.Tx {
	x := api.Tx{Outs: outs}
	for _, r := range refs {
		x.Ins = append(x.Ins, api.In{Ref: r})
	}
	return x
}

// one is the list of one place.
func one(id api.Sum, n int) []api.Ref {
	return []api.Ref{at(id, n)}
}

// told is all that a ledger tells.
type told struct {
	rows   []view.Row
	order  []api.Sum
	done   []ledger.Done
	spent  []ledger.Spend
	fees   int64
	worth  int64
	towers []bond.Tower
	held   []bond.Hold
}

// tell asks a ledger for all that it tells, by the calls that its own parts have.
func tell(l *ledger.Ledger) told {
	w := told{rows: l.All(), order: l.Order(), fees: l.Fees(), worth: l.Worth()}
	for _, id := range w.order {
		d, _ := l.Done(id)
		w.done = append(w.done, d)
		for i := range topList + 1 {
			s, _ := l.Spent(at(id, i))
			w.spent = append(w.spent, s)
		}
	}
	for tower := range topTower + 1 {
		x, _ := l.Board.Get(tower)
		w.towers = append(w.towers, x)
		for channel := range 8 {
			h, _ := l.Holds(tower, channel)
			w.held = append(w.held, h)
		}
	}
	return w
}

// isRefused holds the error of a transaction that does not come, and that nothing has changed.
func isRefused(t *testing.T, what string, l *ledger.Ledger, x api.Tx, height int, want api.Errno) {
	t.Helper()
	before, handed := tell(l), copiedTx(x)
	if e := l.Apply(x, height); e != want {
		t.Errorf("%s: %v, want %v", what, e, want)
	}
	if !reflect.DeepEqual(tell(l), before) {
		t.Errorf("%s: the ledger has changed", what)
	}
	if !reflect.DeepEqual(x, handed) {
		t.Errorf("%s: the transaction has changed", what)
	}
}

// isDone lets a transaction come, and answers its sum.
func isDone(t *testing.T, what string, l *ledger.Ledger, x api.Tx, height int) api.Sum {
	t.Helper()
	handed, worth := copiedTx(x), l.Worth()
	if e := l.Apply(x, height); e != api.OK {
		t.Fatalf("%s: %v", what, e)
	}
	if !reflect.DeepEqual(x, handed) {
		t.Errorf("%s: the transaction has changed", what)
	}
	if got := l.Worth(); got != worth {
		t.Errorf("%s: the worth was %d, and is %d", what, worth, got)
	}
	return tx.Sum(x)
}

// isCoin holds that there is a coin at a place.
func isCoin(t *testing.T, l *ledger.Ledger, r api.Ref, o api.Out, height int) {
	t.Helper()
	c, ok := l.View.Get(r)
	if !ok || c.Height != height || !lock.Same(c.Out, o) {
		t.Errorf("at %v is %v, %v, want %v of %d", r, c, ok, o, height)
	}
}

// isSpent holds by what a place was spent, and that there is no coin.
func isSpent(t *testing.T, l *ledger.Ledger, r api.Ref, want ledger.Spend) {
	t.Helper()
	if s, ok := l.Spent(r); !ok || s != want {
		t.Errorf("%v was spent by %v, %v, want %v", r, s, ok, want)
	}
	if _, ok := l.View.Get(r); ok {
		t.Errorf("at %v there is a coin", r)
	}
}

// isUnspent holds that a place was not spent.
func isUnspent(t *testing.T, l *ledger.Ledger, r api.Ref) {
	t.Helper()
	if s, ok := l.Spent(r); ok || s != (ledger.Spend{}) {
		t.Errorf("%v was spent by %v, %v", r, s, ok)
	}
}

// isLeft holds how much there is in coins, with towers, and what went to miners.
func isLeft(t *testing.T, l *ledger.Ledger, coins, locked, fees int64) {
	t.Helper()
	if got, e := l.View.Total(); got != coins || e != api.OK {
		t.Errorf("the coins are %d, %v, want %d", got, e, coins)
	}
	if got := l.Board.Total(); got != locked {
		t.Errorf("locked are %d, want %d", got, locked)
	}
	if got := l.Fees(); got != fees {
		t.Errorf("the fees are %d, want %d", got, fees)
	}
	if got := l.Worth(); got != coins+locked+fees {
		t.Errorf("the worth is %d, want %d", got, coins+locked+fees)
	}
}

// copiedTx is a transaction that is alike, and shares no memory.
func copiedTx(x api.Tx) api.Tx {
	x.Ins, x.Outs, x.Signs = slices.Clone(x.Ins), slices.Clone(x.Outs), slices.Clone(x.Signs)
	for i := range x.Ins {
		x.Ins[i].Pre = bytes.Clone(x.Ins[i].Pre)
	}
	for i := range x.Outs {
		x.Outs[i] = copiedOut(x.Outs[i])
	}
	x.Op.Data = bytes.Clone(x.Op.Data)
	return x
}

// copiedOut is an out that is alike, and shares no memory.
func copiedOut(o api.Out) api.Out {
	o.Ways = slices.Clone(o.Ways)
	for i, w := range o.Ways {
		o.Ways[i].Keys = slices.Clone(w.Keys)
	}
	return o
}

// spoil writes over all that a transaction has in memory.
func spoil(x api.Tx) {
	for i := range x.Ins {
		for j := range x.Ins[i].Pre {
			x.Ins[i].Pre[j] ^= 0xff
		}
		x.Ins[i] = api.In{Way: 9}
	}
	for i := range x.Outs {
		for j := range x.Outs[i].Ways {
			for k := range x.Outs[i].Ways[j].Keys {
				x.Outs[i].Ways[j].Keys[k] = 77
			}
			x.Outs[i].Ways[j] = api.Way{After: 77}
		}
		x.Outs[i] = api.Out{Amount: 77}
	}
	for i := range x.Signs {
		x.Signs[i] = api.Sign{Key: 77}
	}
	for i := range x.Op.Data {
		x.Op.Data[i] ^= 0xff
	}
}

// isSameTx tells whether two transactions are alike, whereby nil and the empty list are the same; they may be ones that may not be.
func isSameTx(a, b api.Tx) bool {
	return tx.Sum(a) == tx.Sum(b) && slices.Equal(a.Signs, b.Signs) &&
		slices.EqualFunc(a.Ins, b.Ins, func(x, y api.In) bool { return bytes.Equal(x.Pre, y.Pre) })
}

// plain is a channel of 100, of the client 1 and the peer 2.
func plain() api.Channel {
	return api.Channel{Id: 1, Client: 1, Peer: 2, Fund: api.Ref{Tx: api.Sum{7}, At: 3}, Cap: 100, Wait: 6, Window: 4}
}

// stateOf is a state of a channel, in which the peer has a part, and that secrets by the sums of 1 and 2 take back.
func stateOf(c api.Channel, n int, part int64) commit.State {
	return commit.State{N: n, Client: c.Cap - part, Peer: part, Hashes: [2]api.Sum{secret.Point(api.Sum{1}, n), secret.Point(api.Sum{2}, n)}}
}

// commitment is an owner's commitment of such a state, that both signed.
func commitment(t *testing.T, c api.Channel, n int, part int64, owner int) api.Tx {
	t.Helper()
	x, e := commit.Build(c, stateOf(c, n, part), owner)
	if e != api.OK {
		t.Fatal(e)
	}
	return tx.Signed(x, c.Client, c.Peer)
}

// answer is what takes the peer's part of the commitment of such a state, with a fee of 10, and 100 thousandths.
func answer(t *testing.T, c api.Channel, of api.Tx, n, tower int) api.Tx {
	t.Helper()
	x, e := justice.Build(c, of, secret.Of(api.Sum{2}, n), tower, justice.Deal{Reward: 100, Fee: 10})
	if e != api.OK {
		t.Fatal(e)
	}
	return x
}

// keyOf is a new key of many leaves of a tower: each is alike.
func keyOf(t *testing.T, tower int) *many.Key {
	t.Helper()
	k, e := many.New(api.Sum{9, byte(tower)}, 1)
	if e != api.OK {
		t.Fatal(e)
	}
	return k
}

// rootOf is a tower's root.
func rootOf(t *testing.T, tower int) api.Sum {
	t.Helper()
	return keyOf(t, tower).Root()
}

// shown is a tower's proof that it signed for what answers a commitment, which was covered.
func shown(t *testing.T, c api.Channel, came, j api.Tx, n, tower int) api.Proof {
	t.Helper()
	job, e := appoint.Make(c.Id, n, tx.Sum(came), j)
	if e != api.OK {
		t.Fatal(e)
	}
	p := api.Proof{Receipt: job.Receipt(tower), Blob: job.Blob, Commit: tx.Sum(came)}
	p.Sig, e = receipt.Sign(keyOf(t, tower), p.Receipt)
	if e != api.OK {
		t.Fatal(e)
	}
	return p
}

// proofData are a proof's bytes.
func proofData(t *testing.T, p api.Proof) []byte {
	t.Helper()
	b, e := proof.Put(p)
	if e != api.OK {
		t.Fatal(e)
	}
	return b
}
