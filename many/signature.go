package many

import (
	"bartizan/api"
	"bartizan/lamport"
	"bartizan/wire"
)

// maxPath is how many sums the path of a signature has at most.
const maxPath = 8

// signature is what a signature's bytes tell: a leaf's place, how many leaves there are, its path, and what the leaf signed.
type signature struct {
	at, many int
	path     []api.Sum
	once     []byte
}

// bytes are the bytes that tell it.
func (s signature) bytes() []byte {
	var p wire.Pen
	p.Nums(s.at, s.many, len(s.path))
	for _, beside := range s.path {
		p.Sum(beside)
	}
	return p.Text(s.once).Bytes()
}

// read is the signature that bytes tell, if they are those of one.
func read(b []byte) (signature, bool) {
	y := wire.Look(b)
	var s signature
	s.at = y.Upto(MaxLeaves)
	s.many = y.Upto(MaxLeaves)
	for range y.Upto(maxPath) {
		s.path = append(s.path, y.Sum())
	}
	s.once = y.Text(lamport.Size)
	if y.Done() != api.OK {
		return signature{}, false
	}
	return s, true
}
