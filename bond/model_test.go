package bond_test

import (
	"math/rand"
	"slices"
	"testing"

	"bartizan/api"
	"bartizan/bond"
)

// hold is a row of the model: one that stands is not let, and not settled.
type hold struct {
	tower int
	bond.Hold
}

// model is a board as lists, and what it came to: what was locked, was taken, and was paid.
type model struct {
	towers          [16]bond.Tower
	holds           []hold
	in, taken, paid int64
	errors, settled int
}

func (m *model) held(tower int) int64 {
	var all int64
	for _, h := range m.holds {
		if h.tower == tower {
			all += h.Amount
		}
	}
	return all
}

func (m *model) find(tower, id int) int {
	return slices.IndexFunc(m.holds, func(h hold) bool { return h.tower == tower && h.Channel.Id == id })
}

// locks does to the model what Lock is to do, as those below do what the other acts are to do.
func (m *model) locks(tower int, n int64, root api.Sum) api.Errno {
	x := &m.towers[tower]
	if x.Root != (api.Sum{}) && x.Root != root {
		return api.ErrTwice
	}
	x.Root = root
	x.Locked += n
	m.in += n
	return api.OK
}

func (m *model) holdsFor(tower int, c api.Channel) api.Errno {
	x := m.towers[tower]
	switch {
	case x.Root == (api.Sum{}):
		return api.ErrTower
	case m.find(tower, c.Id) >= 0:
		return api.ErrTwice
	case x.Locked-x.Asked-m.held(tower) < c.Cap:
		return api.ErrBond
	}
	m.holds = append(m.holds, hold{tower, bond.Hold{Channel: c, Amount: c.Cap}})
	return api.OK
}

func (m *model) lets(tower, id int) api.Errno {
	i := m.find(tower, id)
	switch {
	case i < 0:
		return api.ErrNone
	case m.holds[i].Proved:
		return api.ErrState
	}
	m.holds = slices.Delete(m.holds, i, i+1)
	return api.OK
}

func (m *model) asks(tower int, n int64, height int) api.Errno {
	x := &m.towers[tower]
	switch {
	case x.Root == (api.Sum{}):
		return api.ErrTower
	case x.Asked != 0:
		return api.ErrState
	case n < 1 || n > x.Locked-m.held(tower):
		return api.ErrBond
	}
	x.Asked, x.At = n, height
	return api.OK
}

func (m *model) takes(tower, height int) (int64, api.Errno) {
	x := &m.towers[tower]
	switch {
	case x.Root == (api.Sum{}):
		return 0, api.ErrTower
	case x.Asked == 0:
		return 0, api.ErrNone
	case height < x.At+12:
		return 0, api.ErrEarly
	}
	n := x.Asked
	*x = bond.Tower{Root: x.Root, Locked: x.Locked - n}
	m.taken += n
	return n, api.OK
}

func (m *model) proves(tower, id, height int, commit api.Sum) api.Errno {
	i := m.find(tower, id)
	switch {
	case i < 0:
		return api.ErrNone
	case m.holds[i].Proved:
		return api.ErrState
	}
	h := &m.holds[i]
	h.Proved, h.At, h.Commit = true, height, commit
	return api.OK
}

func (m *model) settles(tower, id, height int) (int64, api.Errno) {
	i := m.find(tower, id)
	switch {
	case i < 0 || !m.holds[i].Proved:
		return 0, api.ErrNone
	case height < m.holds[i].At+3:
		return 0, api.ErrEarly
	}
	n := m.holds[i].Amount
	m.towers[tower].Locked -= n
	m.paid += n
	m.settled++
	m.holds = slices.Delete(m.holds, i, i+1)
	return n, api.OK
}

// told is what a board that is as the model is tells.
func (m *model) told() told {
	all := nothing()
	for i, x := range m.towers {
		if x.Root == (api.Sum{}) {
			continue
		}
		all.towers = append(all.towers, i)
		all.total += x.Locked
		all.got[i] = x
		if n := m.held(i); n != 0 {
			all.held[i] = n
		}
		if n := x.Locked - x.Asked - m.held(i); n != 0 {
			all.free[i] = n
		}
	}
	for _, h := range m.holds {
		all.holds[[2]int{h.tower, h.Channel.Id}] = h.Hold
	}
	return all
}

// isAmount holds an amount against the model's.
func isAmount(t *testing.T, got, want int64) {
	t.Helper()
	if got != want {
		t.Fatalf("%d came of it, want %d", got, want)
	}
}

// play does one act of chance to a board and to the model, and tells the errors of both.
func play(t *testing.T, chance *rand.Rand, b *bond.Board, m *model, height int) (api.Errno, api.Errno) {
	t.Helper()
	tower, id := chance.Intn(3), chance.Intn(3)
	n := int64(chance.Intn(40)) + 1
	by := root(byte(tower))
	if chance.Intn(10) == 0 {
		by = root(99)
	}
	commit := api.Sum{byte(height), byte(n)}
	switch chance.Intn(8) {
	case 0:
		return b.Lock(tower, n, by), m.locks(tower, n, by)
	case 1, 2:
		return b.Hold(tower, channel(id, n)), m.holdsFor(tower, channel(id, n))
	case 3:
		return b.Let(tower, id), m.lets(tower, id)
	case 4:
		return b.Ask(tower, n, height), m.asks(tower, n, height)
	case 5:
		got, e := b.Take(tower, height)
		want, wantE := m.takes(tower, height)
		isAmount(t, got, want)
		return e, wantE
	case 6:
		return b.Prove(tower, id, height, commit), m.proves(tower, id, height, commit)
	}
	got, e := b.Settle(tower, id, height)
	want, wantE := m.settles(tower, id, height)
	isAmount(t, got, want)
	return e, wantE
}

// Test10_5HeldAgainstAModel plays acts by a fixed row of numbers: what is free is never below 0, and what was locked is locked, or was taken, or paid.
func Test10_5HeldAgainstAModel(t *testing.T) {
	for seed := range int64(30) {
		chance := rand.New(rand.NewSource(seed))
		b, m := bond.New(), &model{}
		for height := range 400 {
			e, want := play(t, chance, b, m, height)
			if e != want {
				t.Fatalf("seed %d, act %d: %v, want %v", seed, height, e, want)
			}
			if e != api.OK {
				m.errors++
			}
			isAlike(t, b, m.told())
			for _, tower := range asked() {
				if n := b.Free(tower); n < 0 {
					t.Fatalf("of %d are free %d", tower, n)
				}
			}
			isTotal(t, b, m.in-m.taken-m.paid)
			if t.Failed() {
				t.Fatalf("seed %d, act %d", seed, height)
			}
		}
		if m.in == 0 || m.taken == 0 || m.settled == 0 || m.errors == 0 {
			t.Errorf("seed %d: %d locked, %d taken, %d settled, %d errors", seed, m.in, m.taken, m.settled, m.errors)
		}
	}
}
