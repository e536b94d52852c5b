package ledger

import (
	"bartizan/api"
	"bartizan/commit"
	"bartizan/wire"
)

// Channel are a channel's bytes.
func Channel(c api.Channel) []byte {
	var p wire.Pen
	p.Nums(c.Id, c.Client, c.Peer).Sum(c.Fund.Tx)
	return p.Nums(c.Fund.At, int(c.Cap), c.Wait, c.Window).Bytes()
}

// ReadChannel is the channel that bytes are.
func ReadChannel(b []byte) (api.Channel, api.Errno) {
	y := wire.Look(b)
	var c api.Channel
	c.Id = y.Num()
	c.Client = y.Num()
	c.Peer = y.Num()
	c.Fund.Tx = y.Sum()
	c.Fund.At = y.Num()
	c.Cap = int64(y.Num())
	c.Wait = y.Num()
	c.Window = y.Num()
	if e := y.Done(); e != api.OK {
		return api.Channel{}, e
	}
	if !commit.RightChannel(c) {
		return api.Channel{}, api.ErrForm
	}
	return c, api.OK
}
