package wire

import (
	"bartizan/api"
)

// Pen writes. Its zero value has written nothing.
type Pen struct {
	sheet *sheet
	n     int // how many of the sheet's bytes the pen wrote
}

// sheet is what pens write on. Pens that were copied from one have it in common, so what stands there is never written over.
type sheet struct {
	b []byte
}

// Num writes a number from 0 on: seven bits a byte, the lowest first, all but the last one with the highest bit; one below 0 as 0.
func (p *Pen) Num(n int) *Pen {
	b := make([]byte, 0, longest)
	rest := max(n, 0)
	for rest >= more {
		b = append(b, byte(rest%more+more))
		rest /= more
	}
	return p.write(append(b, byte(rest)))
}

// Nums writes numbers.
func (p *Pen) Nums(l ...int) *Pen {
	for _, n := range l {
		p.Num(n)
	}
	return p
}

// Text writes how many bytes there are, and these.
func (p *Pen) Text(s []byte) *Pen {
	return p.Num(len(s)).write(s)
}

// Sum writes a sum.
func (p *Pen) Sum(s api.Sum) *Pen {
	return p.write(s[:])
}

// Bytes are all that was written.
func (p *Pen) Bytes() []byte {
	if p == nil || p.n == 0 {
		return nil
	}
	b := make([]byte, p.n)
	copy(b, p.sheet.b)
	return b
}

// write puts bytes behind all that the pen wrote: on a new sheet, if a pen that was copied has gone on with this one.
func (p *Pen) write(b []byte) *Pen {
	if p == nil {
		return nil
	}
	if p.sheet == nil || p.n != len(p.sheet.b) {
		p.sheet = &sheet{p.Bytes()}
	}
	p.sheet.b = append(p.sheet.b, b...)
	p.n = len(p.sheet.b)
	return p
}
