package lock

import (
	"bartizan/api"
	"bartizan/wire"
)

// Put writes an out.
func Put(p *wire.Pen, o api.Out) {
	p.Nums(int(o.Amount), len(o.Ways))
	for _, w := range o.Ways {
		p.Num(len(w.Keys)).Nums(w.Keys...).Sum(w.Hash).Nums(w.After, w.Wait)
	}
}

// Get reads an out that may be.
func Get(y *wire.Eye) api.Out {
	o := api.Out{Amount: int64(y.Upto(api.MaxAmount))}
	for range y.Upto(api.MaxList) {
		o.Ways = append(o.Ways, getWay(y))
	}
	if !RightOut(o) {
		y.Fail(api.ErrForm)
	}
	if y.Err() != api.OK {
		return api.Out{}
	}
	return o
}

// getWay reads a way, whose keys need not rise.
func getWay(y *wire.Eye) api.Way {
	var w api.Way
	for range y.Upto(api.MaxList) {
		w.Keys = append(w.Keys, y.Upto(api.MaxKey))
	}
	w.Hash = y.Sum()
	w.After = y.Upto(api.MaxHeight)
	w.Wait = y.Upto(api.MaxHeight)
	return w
}
