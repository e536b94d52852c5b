package tx

import (
	"bytes"

	"bartizan/api"
	"bartizan/lock"
	"bartizan/sha"
	"bartizan/wire"
)

// tagSum is none of the tags of the layers below, so that a transaction's sum is none of theirs.
const tagSum = 41

// Sum is a transaction's sum: of all but what is shown, and who signed.
func Sum(t api.Tx) api.Sum {
	var p wire.Pen
	putFront(&p, t, false)
	return sha.Join(tagSum, p.Bytes())
}

// putFront writes a transaction's front, with or without what its ins show.
func putFront(p *wire.Pen, t api.Tx, shown bool) {
	p.Num(len(t.Ins))
	for _, in := range t.Ins {
		p.Sum(in.Ref.Tx).Nums(in.Ref.At, in.Way)
		if shown {
			p.Text(in.Pre)
		}
	}
	p.Num(len(t.Outs))
	for _, o := range t.Outs {
		lock.Put(p, o)
	}
	p.Nums(t.Op.Kind, t.Op.Tower, t.Op.Channel, int(t.Op.Amount)).Sum(t.Op.Root).Text(t.Op.Data)
}

// Bytes are a transaction's bytes.
func Bytes(t api.Tx) ([]byte, api.Errno) {
	if !Right(t) {
		return nil, api.ErrArg
	}
	var p wire.Pen
	putFront(&p, t, true)
	p.Num(len(t.Signs))
	for _, s := range t.Signs {
		p.Num(s.Key).Sum(s.Of)
	}
	return p.Bytes(), api.OK
}

// Read is the transaction that bytes are.
func Read(b []byte) (api.Tx, api.Errno) {
	y := wire.Look(b)
	var t api.Tx
	for range y.Upto(api.MaxList) {
		t.Ins = append(t.Ins, getIn(y))
	}
	for range y.Upto(api.MaxList) {
		t.Outs = append(t.Outs, lock.Get(y))
	}
	t.Op = getOp(y)
	for range y.Upto(api.MaxList) {
		t.Signs = append(t.Signs, getSign(y))
	}
	if e := y.Done(); e != api.OK {
		return api.Tx{}, e
	}
	if !Right(t) {
		return api.Tx{}, api.ErrForm
	}
	return t, api.OK
}

// getIn reads an in.
func getIn(y *wire.Eye) api.In {
	var in api.In
	in.Ref.Tx = y.Sum()
	in.Ref.At = y.Upto(maxPlace)
	in.Way = y.Upto(maxPlace)
	in.Pre = y.Text(maxPre)
	return in
}

// getOp reads an op, of which no number is above what may be.
func getOp(y *wire.Eye) api.Op {
	var o api.Op
	o.Kind = y.Upto(api.OpSettle)
	o.Tower = y.Upto(maxTower)
	o.Channel = y.Upto(maxChannel)
	o.Amount = int64(y.Upto(api.MaxAmount))
	o.Root = y.Sum()
	o.Data = y.Text(api.MaxData)
	return o
}

// getSign reads a sign.
func getSign(y *wire.Eye) api.Sign {
	var s api.Sign
	s.Key = y.Upto(api.MaxKey)
	s.Of = y.Sum()
	return s
}

// Same tells whether two transactions may be, and have the same bytes.
func Same(a, b api.Tx) bool {
	first, e := Bytes(a)
	if e != api.OK {
		return false
	}
	second, e := Bytes(b)
	return e == api.OK && bytes.Equal(first, second)
}
