package pool

import (
	"slices"
	"strings"

	"silo/api"
	"silo/book"
	"silo/code"
	"silo/cut"
	"silo/fit"
	"silo/record"
)

// batch is how many records the journal takes at once.
const batch = 2000

// fits asks whether the journal has room for a batch.
func (p *Pool) fits(l []api.Record) bool {
	bytes := 0
	for n, r := range l {
		f, _ := record.Frame(r, n)
		bytes += len(f)
	}
	return len(l) <= batch && bytes <= p.j.Room()
}

// tell makes records last, and the book what it is behind them: next. Where the journal has no room it is
// begun anew with the book's lines; and where not even that makes room for so many records, with next's.
func (p *Pool) tell(next api.Book, l []api.Record) api.Errno {
	e := p.last(next, l)
	if e != api.OK {
		p.open = false
		return e
	}
	p.book = next
	return api.OK
}

// last makes records last in the journal.
func (p *Pool) last(next api.Book, l []api.Record) api.Errno {
	if p.fits(l) {
		return p.j.Add(l...)
	}
	old, _ := book.Lines(p.s, p.book)
	if e := p.j.Reset(old...); e != api.OK {
		return e
	}
	if p.fits(l) {
		return p.j.Add(l...)
	}
	all, _ := book.Lines(p.s, next)
	return p.j.Reset(all...)
}

// after is a book behind records.
func (p *Pool) after(b api.Book, l []api.Record) (api.Book, api.Errno) {
	for _, r := range l {
		next, e := book.Apply(p.s, b, r)
		if e != api.OK {
			return api.Book{}, e
		}
		b = next
	}
	return b, api.OK
}

// room asks whether one more thing, of so many stripes, may come. The next stripe's ID is one, too.
func (p *Pool) room(d string, many int) api.Errno {
	if _, ok := p.thing(d); ok {
		return api.ErrThere
	}
	if len(p.book.Things) >= api.MaxThings || p.book.Next+many > api.MaxGen {
		return api.ErrLimit
	}
	return api.OK
}

// spread is a text's stripes at their slots, and all their shards.
func (p *Pool) spread(t string, places [][]api.Slot) (stripes []api.Stripe, l []spot) {
	parts, _ := cut.Parts(p.s, t)
	for i, part := range parts {
		x := api.Stripe{ID: p.book.Next + i, Len: len(part), Place: places[i]}
		lanes, _ := cut.Lanes(p.s, part)
		pieces, _ := code.Encode(p.s, lanes)
		for k, piece := range pieces {
			l = append(l, spot{s: api.Shard{Stripe: x.ID, Index: k, Text: piece}, at: x.Place[k]})
		}
		stripes = append(stripes, x)
	}
	return stripes, l
}

// Add brings a thing: its text, and the record that tells of it.
func (p *Pool) Add(t string, r api.Record) api.Errno {
	kind := r.Kind == api.RecBlob || r.Kind == api.RecManifest
	if !kind || record.Check(r) != api.OK || r.ID != len(t) || len(r.List) > 0 || len(t) > api.MaxBlob {
		return api.ErrForm
	}
	if !p.open {
		return api.ErrState
	}
	many, _ := cut.Stripes(p.s, len(t))
	if e := p.room(r.Digest, many); e != api.OK {
		return e
	}
	places, _, e := fit.Text(p.s, p.Slots(), len(t))
	if e != api.OK {
		return e
	}
	stripes, shards := p.spread(t, places)
	if e := p.write(shards); e != api.OK {
		return e
	}
	thing := api.Record{Kind: r.Kind, ID: r.ID, Digest: r.Digest}
	records := []api.Record{}
	for _, x := range stripes {
		records = append(records, committed(x))
		thing.List = append(thing.List, x.ID)
	}
	records = append(records, thing)
	next, e := p.after(p.book, records)
	if e != api.OK {
		return e
	}
	return p.tell(next, records)
}

// tagged is tags behind records of tags: on the way there may be more than MaxTags.
func tagged(tags []api.Tag, l []api.Record) ([]api.Tag, api.Errno) {
	all := map[string]api.Tag{}
	for _, x := range tags {
		all[x.Name] = x
	}
	for _, r := range l {
		_, ok := all[r.Name]
		switch {
		case r.Kind == api.RecTag:
			all[r.Name] = api.Tag{Name: r.Name, Digest: r.Digest}
		case ok:
			delete(all, r.Name)
		default:
			return nil, api.ErrNone
		}
	}
	if len(all) > api.MaxTags {
		return nil, api.ErrLimit
	}
	next := []api.Tag{}
	for _, x := range all {
		next = append(next, x)
	}
	slices.SortFunc(next, func(a api.Tag, b api.Tag) int { return strings.Compare(a.Name, b.Name) })
	return next, api.OK
}

// Note brings and takes tags.
func (p *Pool) Note(l ...api.Record) api.Errno {
	for _, r := range l {
		if r.Kind != api.RecTag && r.Kind != api.RecUntag || record.Check(r) != api.OK {
			return api.ErrForm
		}
	}
	if len(l) == 0 {
		return api.OK
	}
	if !p.open {
		return api.ErrState
	}
	tags, e := tagged(p.book.Tags, l)
	if e != api.OK {
		return e
	}
	next := copied(p.book)
	next.Tags = tags
	return p.tell(next, l)
}

// Drop takes things, and their stripes.
func (p *Pool) Drop(l ...string) api.Errno {
	if len(l) == 0 {
		return api.OK
	}
	if !p.open {
		return api.ErrState
	}
	next, records := p.book, []api.Record{}
	for _, d := range l {
		x, ok := p.thing(d)
		if !ok {
			return api.ErrNone
		}
		gone := []api.Record{{Kind: api.RecDrop, Digest: d}}
		for _, id := range x.List {
			gone = append(gone, api.Record{Kind: api.RecFree, ID: id})
		}
		b, e := p.after(next, gone)
		if e != api.OK {
			return e
		}
		next, records = b, append(records, gone...)
	}
	return p.tell(next, records)
}
