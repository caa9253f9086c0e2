package pool

import (
	"silo/api"
	"silo/book"
	"silo/code"
	"silo/place"
	"silo/rota"
)

// next is the stripe of the next piece of the rota, and the piece; ok is false, if there are no stripes.
func (p *Pool) next() (x api.Stripe, i int, ok bool) {
	c, e := rota.Next(p.s, p.book, p.cursor)
	if e != api.OK {
		return api.Stripe{}, 0, false
	}
	p.cursor = c
	return p.stripe(c.Stripe), c.Index, true
}

// move lays pieces of a stripe at the slots that a need tells, and tells the new places.
func (p *Pool) move(x api.Stripe, n api.Need, pieces []string) (bool, api.Errno) {
	y, _, e := place.Moved(p.s, x, n)
	if e != api.OK {
		return false, api.OK
	}
	l := []spot{}
	for k, i := range n.Index {
		l = append(l, spot{s: api.Shard{Stripe: x.ID, Gen: x.Gen, Index: i, Text: pieces[i]}, at: n.To[k]})
	}
	if e := p.write(l); e != api.OK {
		return false, e
	}
	r := committed(y)
	next, e := book.Apply(p.s, p.book, r)
	if e != api.OK {
		return false, e
	}
	if e := p.tell(next, []api.Record{r}); e != api.OK {
		return false, e
	}
	return true, api.OK
}

// Step mends the stripe of the next piece, if that is not good.
func (p *Pool) Step() (bool, api.Errno) {
	if !p.open {
		return false, api.ErrState
	}
	x, i, ok := p.next()
	if !ok {
		return false, api.OK
	}
	if _, good := p.piece(x, i); good {
		return false, api.OK
	}
	l, there := p.pieces(x, len(x.Place))
	n, _, e := place.Needs(p.s, x, p.Slots(), there)
	if e != api.OK {
		return false, api.OK
	}
	all, e := code.Rebuild(p.s, l, there)
	if e != api.OK {
		return false, api.OK
	}
	return p.move(x, n, all)
}

// Balance brings a shard from the fullest disk to the emptiest one.
func (p *Pool) Balance() (bool, api.Errno) {
	if !p.open {
		return false, api.ErrState
	}
	n, e := place.Shift(p.s, p.book.Stripes, p.Slots())
	if e != api.OK {
		return false, api.OK
	}
	x := p.stripe(n.Stripe)
	i := n.Index[0]
	t, good := p.piece(x, i)
	if !good {
		return false, api.OK
	}
	pieces := make([]string, len(x.Place))
	pieces[i] = t
	return p.move(x, n, pieces)
}
