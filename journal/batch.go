package journal

import (
	"iter"
	"strings"

	"silo/api"
	"silo/array"
	"silo/check"
	"silo/record"
)

// A disk's room is a mark (one sector) and two halves. A half holds the batches of one epoch, one behind the
// other, each from a sector's begin on: an epoch is begun by a batch that holds all records there are, on each
// disk in the half where its latest does not lie, so that that one stays whole until the new one is flushed.
const (
	halves = 2
	half   = (api.Area - 1) / halves
)

// Each sector says in its first byte whether a batch begins there: what lies within a batch is never
// taken for another's begin.
const (
	begins  byte = 'B'
	goesOn  byte = 'C'
	payload      = api.Sector - 1
)

// A batch is its epoch, how many are ahead of it, how long its frames are, its frames, and the check of
// all that behind all that lies in the batches ahead: so none is taken for one of another row.
const (
	ahead  = 12
	behind = 8
)

// start is the sector where a half begins.
func start(h int) int {
	return 1 + h*half
}

// sectors is how many a batch takes whose frames have so many bytes.
func sectors(frames int) int {
	return (ahead + frames + behind + payload - 1) / payload
}

// room is how many bytes of frames a batch of at most so many sectors can have.
func room(free int) int {
	return max(0, free*payload-ahead-behind)
}

// number appends n's lowest bytes, the highest first.
func number(b []byte, n uint64, bytes int) []byte {
	for i := bytes - 1; i >= 0; i-- {
		b = append(b, byte(n>>(8*i)))
	}
	return b
}

// value is the number that bytes stand for.
func value(s string) uint64 {
	n := uint64(0)
	for i := range len(s) {
		n = n<<8 | uint64(s[i])
	}
	return n
}

// chain is a row of batches of one epoch: how many, their sum, how many sectors they take.
type chain struct {
	epoch int
	count int
	sum   uint64
	used  int
}

// pack is the next batch's bytes, and the row behind it.
func (c chain) pack(frames string) (string, chain) {
	b := number(nil, uint64(c.epoch), 4)
	b = number(b, uint64(c.count), 4)
	b = number(b, uint64(len(frames)), 4)
	b = append(b, frames...)
	sum := check.More(c.sum, string(b))
	next := chain{epoch: c.epoch, count: c.count + 1, sum: sum, used: c.used + sectors(len(frames))}
	return string(number(b, sum, behind)), next
}

// cut goes through a batch's sectors.
func cut(b string) iter.Seq[string] {
	return func(yield func(string) bool) {
		first := begins
		for low := 0; low < len(b); low += payload {
			sector := [api.Sector]byte{first}
			copy(sector[1:], b[low:min(low+payload, len(b))])
			if !yield(string(sector[:])) {
				return
			}
			first = goesOn
		}
	}
}

// frames is the frames of records; it errs, if one may not be.
func frames(l []api.Record) (string, api.Errno) {
	all := strings.Builder{}
	for n, r := range l {
		f, e := record.Frame(r, n)
		if e != api.OK {
			return "", api.ErrForm
		}
		all.WriteString(f)
	}
	return all.String(), api.OK
}

// story is what one half of a disk tells: a row of batches, and their records.
type story struct {
	chain
	records []api.Record
}

// later asks whether a story goes on behind where another one ends.
func (s story) later(t story) bool {
	return s.epoch > t.epoch || s.epoch == t.epoch && s.count > t.count
}

// part is a sector's payload, if its first byte is as it should be.
func part(a *array.Array, d int, s int, first byte) (p string, ok bool) {
	t, e := a.Read(d, s)
	if e != api.OK || t[0] != first {
		return "", false
	}
	return t[1:], true
}

// next reads the batch behind a story, if there is one: of an empty story the batch may be of any epoch.
func (s story) next(a *array.Array, d int, from int) (t story, ok bool) {
	b, ok := part(a, d, from+s.used, begins)
	if !ok || s.used >= half {
		return story{}, false
	}
	length := int(value(b[8:ahead]))
	many := sectors(length)
	if many > half-s.used {
		return story{}, false
	}
	for i := 1; i < many; i++ {
		more, ok := part(a, d, from+s.used+i, goesOn)
		if !ok {
			return story{}, false
		}
		b += more
	}
	if s.count == 0 {
		s.epoch = int(value(b[:4]))
	}
	body := b[ahead : ahead+length]
	right, behind := s.pack(body)
	if b[:len(right)] != right {
		return story{}, false
	}
	l, _, bytes := record.Frames(body)
	if bytes != length {
		return story{}, false
	}
	return story{chain: behind, records: append(s.records, l...)}, true
}

// read is what a half of a disk tells; its count is 0, if that is nothing.
func read(a *array.Array, d int, from int) story {
	s := story{}
batches:
	for {
		t, ok := s.next(a, d, from)
		if !ok {
			break batches
		}
		s = t
	}
	return s
}

// told is the latest of what a disk's halves tell, and in which half it lies.
func told(a *array.Array, d int) (best story, at int) {
	for h := range halves {
		if s := read(a, d, start(h)); s.later(best) {
			best, at = s, h
		}
	}
	return best, at
}
