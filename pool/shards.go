package pool

import (
	"iter"

	"silo/api"
	"silo/code"
	"silo/cut"
	"silo/shard"
)

// sector is where a slot's sectors begin.
func (p *Pool) sector(at api.Slot) int {
	many, _ := shard.Count(p.s.Size)
	return api.Area + at.At*many
}

// sectors reads what lies at a slot; of what cannot be read there is nothing.
func (p *Pool) sectors(at api.Slot) []string {
	many, _ := shard.Count(p.s.Size)
	l := []string{}
	for i := range many {
		t, e := p.a.Read(at.Disk, p.sector(at)+i)
		if e != api.OK {
			return nil
		}
		l = append(l, t)
	}
	return l
}

// piece reads a piece of a stripe; ok is whether its shard is good.
func (p *Pool) piece(x api.Stripe, i int) (string, bool) {
	l := p.sectors(x.Place[i])
	if shard.Class(l, x.ID, x.Gen, i) != api.ClassGood {
		return "", false
	}
	s, _ := shard.Take(l)
	if len(s.Text) != p.s.Size {
		return "", false
	}
	return s.Text, true
}

// good goes through the pieces of a stripe whose shards are good, rising, each with its text.
func (p *Pool) good(x api.Stripe) iter.Seq2[int, string] {
	return func(yield func(int, string) bool) {
	pieces:
		for i := range x.Place {
			t, ok := p.piece(x, i)
			if !ok {
				continue pieces
			}
			if !yield(i, t) {
				return
			}
		}
	}
}

// pieces reads a stripe's good pieces, up to so many; there tells which they are.
func (p *Pool) pieces(x api.Stripe, most int) (l []string, there []bool) {
	l, there = make([]string, len(x.Place)), make([]bool, len(x.Place))
	many := 0
read:
	for i, t := range p.good(x) {
		l[i], there[i] = t, true
		many++
		if many == most {
			break read
		}
	}
	return l, there
}

// part reads a stripe's text.
func (p *Pool) part(x api.Stripe) (string, api.Errno) {
	l, there := p.pieces(x, p.s.K)
	whole := true
	for _, is := range there[:p.s.K] {
		whole = whole && is
	}
	if !whole {
		all, e := code.Rebuild(p.s, l, there)
		if e != api.OK {
			return "", api.ErrLost
		}
		l = all
	}
	t, e := cut.Join(p.s, l[:p.s.K], x.Len)
	if e != api.OK {
		return "", api.ErrLost
	}
	return t, api.OK
}

// spot is a shard, and the slot where it is to lie.
type spot struct {
	s  api.Shard
	at api.Slot
}

// write lays shards at their slots, and flushes the disks: behind an error the pool is not open any more.
func (p *Pool) write(l []spot) api.Errno {
	e := p.lay(l)
	if e != api.OK {
		p.open = false
	}
	return e
}

// lay writes all shards, and flushes each of their disks once.
func (p *Pool) lay(l []spot) api.Errno {
	disks := [api.MaxDisks]bool{}
	for _, x := range l {
		sectors, e := shard.Sectors(x.s)
		if e != api.OK {
			return e
		}
		for i, t := range sectors {
			if e := p.a.Write(x.at.Disk, p.sector(x.at)+i, t); e != api.OK {
				return e
			}
		}
		disks[x.at.Disk] = true
	}
	for d, is := range disks {
		if is {
			if e := p.a.Flush(d); e != api.OK {
				return e
			}
		}
	}
	return api.OK
}

// committed is the record that tells where a stripe lies.
func committed(x api.Stripe) api.Record {
	return api.Record{Kind: api.RecCommit, ID: x.ID, List: []int{x.Len, x.Gen}, Slots: x.Place}
}
