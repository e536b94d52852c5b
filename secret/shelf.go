package secret

import (
	"slices"

	"bartizan/api"
)

// Shelf is secrets that were shown, by states. Its zero value has none.
type Shelf struct {
	rack *rack
	n    int // how many of the rack's secrets the shelf has
}

// rack is where secrets stand. Shelves that were copied as values have it in common, so what stands there is never written over.
type rack struct {
	secrets []api.Sum
}

// Put puts the secret of the next state in, if it is known by a hash.
func (s *Shelf) Put(x, hash api.Sum) api.Errno {
	if s == nil {
		return api.ErrArg
	}
	if Hash(x) != hash {
		return api.ErrProof
	}
	if s.n > api.MaxState {
		return api.ErrFull
	}
	s.add(x)
	return api.OK
}

// add puts a secret behind all that the shelf has: on a new rack, if a shelf that was copied has gone on with this one.
func (s *Shelf) add(x api.Sum) {
	if s.rack == nil || s.n != len(s.rack.secrets) {
		s.rack = &rack{s.All()}
	}
	s.rack.secrets = append(s.rack.secrets, x)
	s.n++
}

// Len is how many states were taken back.
func (s *Shelf) Len() int {
	if s == nil {
		return 0
	}
	return s.n
}

// Get is the secret of a state.
func (s *Shelf) Get(state int) (api.Sum, bool) {
	if state < 0 || state >= s.Len() {
		return api.Sum{}, false
	}
	return s.rack.secrets[state], true
}

// Clone is a shelf that is alike, and goes its own way.
func (s *Shelf) Clone() Shelf {
	if s.Len() == 0 {
		return Shelf{}
	}
	return Shelf{&rack{s.All()}, s.n}
}

// All are all secrets, by their states.
func (s *Shelf) All() []api.Sum {
	if s.Len() == 0 {
		return nil
	}
	return slices.Clone(s.rack.secrets[:s.n])
}
