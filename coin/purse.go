package coin

import (
	"bartizan/api"
)

// Purse is amounts by keys. Its zero value has nothing.
type Purse struct {
	has map[int]int64
}

// Put puts an amount to a key.
func (p *Purse) Put(key int, n int64) api.Errno {
	if p == nil {
		return api.ErrArg
	}
	both, e := Add(p.Has(key), n)
	if e != api.OK {
		return e
	}
	p.set(key, both)
	return api.OK
}

// Has is how much a key has.
func (p *Purse) Has(key int) int64 {
	if p == nil {
		return 0
	}
	return p.has[key]
}

// Pay moves an amount from a key to another one.
func (p *Purse) Pay(from, to int, n int64) api.Errno {
	if p == nil {
		return api.ErrArg
	}
	rest, e := Sub(p.Has(from), n)
	if e != api.OK || from == to {
		return e
	}
	if e := p.Put(to, n); e != api.OK {
		return e
	}
	p.set(from, rest)
	return api.OK
}

// set is the one place where the map is written. Keys that have nothing are not kept, so that a purse is no greater than what is in it.
func (p *Purse) set(key int, n int64) {
	if n == 0 {
		delete(p.has, key)
		return
	}
	if p.has == nil {
		p.has = make(map[int]int64)
	}
	p.has[key] = n
}
