package receipt

import (
	"bartizan/api"
	"bartizan/wire"
)

// Signed is a receipt that is signed.
type Signed struct {
	api.Receipt
	Sig []byte
}

// Good tells whether it was signed by a key with a root.
func (s Signed) Good(root api.Sum) bool {
	return Verify(root, s.Receipt, s.Sig)
}

// Put are its bytes: its text, and its signature.
func (s Signed) Put() []byte {
	var p wire.Pen
	return p.Text(Text(s.Receipt)).Text(s.Sig).Bytes()
}

// Get is the one that bytes are.
func Get(b []byte) (Signed, api.Errno) {
	y := wire.Look(b)
	text := y.Text(api.MaxData)
	sig := y.Text(api.MaxData)
	if e := y.Done(); e != api.OK {
		return Signed{}, e
	}
	r, e := Read(text)
	if e != api.OK {
		return Signed{}, e
	}
	return Signed{Receipt: r, Sig: sig}, api.OK
}
