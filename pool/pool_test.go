package pool_test

import (
	"maps"
	"math/rand"
	"slices"
	"strings"
	"testing"

	"silo/api"
	"silo/array"
	"silo/book"
	"silo/cut"
	"silo/digest"
	"silo/fit"
	"silo/journal"
	"silo/place"
	. "silo/pool"
	"silo/shard"
	"silo/slots"
)

func want(t *testing.T, what string, e, w api.Errno) {
	t.Helper()
	if e != w {
		t.Errorf("%s: %d, not %d", what, e, w)
	}
}

// sized is how many sectors a disk must have.
func sized(s api.Shape, n int) int {
	many, _ := shard.Count(s.Size)
	return api.Area + n*many
}

// disks is an array that has just room.
func disks(t *testing.T, many int, s api.Shape, n int) *array.Array {
	t.Helper()
	a, e := array.New(many, sized(s, n))
	if e != api.OK {
		t.Fatalf("array: %d", e)
	}
	return a
}

func made(t *testing.T, a *array.Array, s api.Shape, n int) *Pool {
	t.Helper()
	p, e := New(a, s, n)
	if p == nil || e != api.OK {
		t.Fatalf("new: %d", e)
	}
	return p
}

func opened(t *testing.T, a *array.Array, s api.Shape, n int) *Pool {
	t.Helper()
	p, e := Open(a, s, n)
	if p == nil || e != api.OK {
		t.Fatalf("open: %d", e)
	}
	return p
}

// stripe is the pool's stripe with an ID.
func stripe(t *testing.T, p *Pool, id int) api.Stripe {
	t.Helper()
	b := p.Book()
	i := slices.IndexFunc(b.Stripes, func(x api.Stripe) bool { return x.ID == id })
	if i < 0 {
		t.Fatalf("no stripe %d", id)
	}
	return b.Stripes[i]
}

// sectors is what lies at a slot.
func sectors(t *testing.T, a *array.Array, s api.Shape, at api.Slot) []string {
	t.Helper()
	many, _ := shard.Count(s.Size)
	l := []string{}
	for i := range many {
		x, e := a.Read(at.Disk, api.Area+at.At*many+i)
		want(t, "read", e, api.OK)
		l = append(l, x)
	}
	return l
}

// of is the record of a text.
func of(t string) api.Record {
	return api.Record{Kind: api.RecBlob, ID: len(t), Digest: digest.Of(t)}
}

func text(r *rand.Rand, n int) string {
	b := make([]byte, n)
	r.Read(b)
	return string(b)
}

func same(a, b api.Book) bool {
	x := slices.EqualFunc(a.Stripes, b.Stripes, func(x, y api.Stripe) bool {
		return x.ID == y.ID && x.Len == y.Len && x.Gen == y.Gen && slices.Equal(x.Place, y.Place)
	})
	y := slices.EqualFunc(a.Things, b.Things, func(x, y api.Entry) bool {
		return x.Digest == y.Digest && x.Len == y.Len && x.Manifest == y.Manifest && slices.Equal(x.List, y.List)
	})
	return x && y && slices.Equal(a.Tags, b.Tags) && a.Next == b.Next
}

func TestErrorsOfNewAndOpen(t *testing.T) {
	s := api.Shape{K: 2, M: 1, Size: 50}
	six := disks(t, 6, s, 10)
	rows := []struct {
		a    *array.Array
		s    api.Shape
		n    int
		want api.Errno
	}{
		{nil, s, 10, api.ErrForm}, {six, api.Shape{}, 10, api.ErrForm}, {six, api.Shape{K: 9, M: 1, Size: 5}, 10, api.ErrForm}, {six, s, 0, api.ErrForm}, {six, s, 65, api.ErrForm}, {six, s, -1, api.ErrForm}, {six, s, 1 << 62, api.ErrForm},
		{six, api.Shape{K: 6, M: 1, Size: 5}, 5, api.ErrFew}, {six, s, 11, api.ErrFull}, {six, api.Shape{K: 2, M: 1, Size: 110}, 10, api.ErrFull},
		// 12 disks times 29, by 3, times 45 and 24: 116 times 69 is 8004.
		{disks(t, 12, s, 29), s, 29, api.ErrForm}, {disks(t, 12, s, 28), s, 28, api.OK}, {disks(t, 12, s, 29), api.Shape{K: 1, M: 0, Size: 5}, 12, api.OK}, {disks(t, 12, s, 29), api.Shape{K: 1, M: 0, Size: 5}, 13, api.ErrForm},
		// 12 disks times 54, by 10, times 45 and 80, is just 8000.
		{disks(t, 12, s, 55), api.Shape{K: 8, M: 2, Size: 5}, 54, api.OK}, {disks(t, 12, s, 55), api.Shape{K: 8, M: 2, Size: 5}, 55, api.ErrForm},
		{disks(t, 3, s, 1), s, 1, api.OK}, {disks(t, 3, s, 64), s, 64, api.OK}, {disks(t, 1, s, 64), api.Shape{K: 1, M: 0, Size: 1}, 65, api.ErrForm},
		{disks(t, 11, s, 40), api.Shape{K: 8, M: 6, Size: 5}, 60, api.ErrFew},
	}
	for i, row := range rows {
		p, e := New(row.a, row.s, row.n)
		if e != row.want || (p == nil) != (e != api.OK) {
			t.Errorf("row %d: new: %d", i, e)
		}
		p, e = Open(row.a, row.s, row.n)
		if e != row.want || (p == nil) != (e != api.OK) {
			t.Errorf("row %d: open: %d", i, e)
		}
	}
	if p, e := Open(six, s, 10); p != nil || e != api.ErrBad {
		t.Errorf("nothing there: %d", e)
	}
	six.Lose(3)
	if p, e := New(six, s, 10); p != nil || e != api.ErrFew {
		t.Errorf("one is lost: %d", e)
	}
	six.Replace(3)
	six.Off(0)
	if p, e := New(six, s, 10); p != nil || e != api.ErrOff {
		t.Errorf("off: %d", e)
	}
	six.Crash(nil)
	// A journal whose records are no book's.
	j, _ := journal.New(six)
	want(t, "add", j.Add(api.Record{Kind: api.RecFree, ID: 1}), api.OK)
	if p, e := Open(six, s, 10); p != nil || e != api.ErrBad {
		t.Errorf("no book: %d", e)
	}
	want(t, "reset", j.Reset(api.Record{Kind: api.RecBlob, ID: 1, Digest: digest.Of("x"), List: []int{0}}), api.OK)
	if p, e := Open(six, s, 10); p != nil || e != api.ErrBad {
		t.Errorf("no book that may be: %d", e)
	}
}

// TestAdd: shards lie where fit tells, as the words say; the book tells of them, and the text is back.
func TestAdd(t *testing.T) {
	r := rand.New(rand.NewSource(44))
	for _, s := range []api.Shape{{K: 1, M: 0, Size: 9}, {K: 2, M: 1, Size: 50}, {K: 3, M: 2, Size: 120}, {K: 1, M: 2, Size: 3}} {
		a := disks(t, 7, s, 9)
		p := made(t, a, s, 9)
		for _, n := range []int{0, 1, s.K * s.Size, s.K*s.Size + 1, 3*s.K*s.Size - 1} {
			x := text(r, n)
			places, _, e := fit.Text(s, p.Slots(), n)
			before := p.Book()
			rec := of(x)
			if n == 1 {
				rec.Kind = api.RecManifest
			}
			if e != api.OK {
				want(t, "add", p.Add(x, rec), e)
				continue
			}
			want(t, "add", p.Add(x, rec), api.OK)
			b := p.Book()
			a.Crash(nil)
			if y, e := p.Text(rec.Digest); y != x || e != api.OK {
				t.Fatalf("%v, %d bytes: %d", s, n, e)
			}
			if book.Check(s, b) != api.OK || len(b.Stripes) != len(before.Stripes)+len(places) || b.Next != before.Next+len(places) || len(b.Things) != len(before.Things)+1 {
				t.Fatalf("%v, %d bytes: the book", s, n)
			}
			i := slices.IndexFunc(b.Things, func(x api.Entry) bool { return x.Digest == rec.Digest })
			if b.Things[i].Len != n || b.Things[i].Manifest != (n == 1) {
				t.Errorf("%v, %d bytes: %v", s, n, b.Things[i])
			}
			parts, _ := cut.Parts(s, x)
			for k, id := range b.Things[i].List {
				y := stripe(t, p, id)
				if id != before.Next+k || !slices.Equal(y.Place, places[k]) || y.Gen != 0 || y.Len != len(parts[k]) {
					t.Errorf("%v, %d bytes: stripe %v", s, n, y)
				}
				lanes, _ := cut.Lanes(s, parts[k])
				for at := range s.K {
					l := sectors(t, a, s, places[k][at])
					if sh, e := shard.Take(l); e != api.OK || sh != (api.Shard{Stripe: id, Index: at, Text: lanes[at]}) {
						t.Errorf("%v: shard %v, %d", s, sh, e)
					}
				}
			}
		}
		if p.Good() != p.All() || p.All() != len(p.Book().Stripes)*(s.K+s.M) {
			t.Errorf("%v: %d of %d good", s, p.Good(), p.All())
		}
		q := opened(t, a, s, 9)
		if !same(q.Book(), p.Book()) {
			t.Errorf("%v: opened", s)
		}
	}
}

func TestErrorsOfAdd(t *testing.T) {
	s := api.Shape{K: 2, M: 1, Size: 4}
	a := disks(t, 4, s, 3)
	p := made(t, a, s, 3)
	for i, row := range []struct {
		t string
		r api.Record
	}{
		{"ab", of("abc")}, {"ab", api.Record{Kind: api.RecBlob, ID: 2, Digest: "short"}}, {"ab", api.Record{Kind: api.RecDrop, Digest: digest.Of("ab")}}, {"", api.Record{Kind: api.RecTag, Name: "a", Digest: digest.Of("ab")}}, {"", api.Record{}},
		{"ab", api.Record{Kind: api.RecBlob, ID: 2, Digest: digest.Of("ab"), List: []int{0}}}, {"ab", api.Record{Kind: api.RecBlob, ID: 2, Digest: digest.Of("ab"), Name: "x"}}, {strings.Repeat("x", 2001), of(strings.Repeat("x", 2001))},
	} {
		want(t, "form "+string(rune('0'+i)), p.Add(row.t, row.r), api.ErrForm)
	}
	want(t, "add", p.Add("ab", of("ab")), api.OK)
	want(t, "twice", p.Add("ab", of("ab")), api.ErrThere)
	before := p.Book()
	changes := a.Changes()
	want(t, "full", p.Add(strings.Repeat("x", 32), of(strings.Repeat("x", 32))), api.ErrFull)
	a.Lose(1)
	a.Lose(2)
	want(t, "there ahead of few", p.Add("ab", of("ab")), api.ErrThere)
	want(t, "few", p.Add("x", of("x")), api.ErrFew)
	if !same(p.Book(), before) || a.Changes() != changes {
		t.Errorf("something has changed")
	}
	want(t, "few live: journal", p.Add("", of("")), api.ErrFew)
	want(t, "behind that", p.Add("", of("")), api.ErrState)

	a = disks(t, 3, s, 3)
	p = made(t, a, s, 3)
	for i := range api.MaxThings {
		want(t, "empty ones", p.Add("", api.Record{Kind: api.RecBlob, Digest: digest.Of(string([]byte{byte(i)}))}), api.OK)
	}
	want(t, "too many", p.Add(strings.Repeat("x", 100), of(strings.Repeat("x", 100))), api.ErrLimit)
	want(t, "there ahead of too many", p.Add("", api.Record{Kind: api.RecBlob, Digest: digest.Of("\x05")}), api.ErrThere)

	j, _ := journal.New(a)
	want(t, "journal", j.Add(api.Record{Kind: api.RecPrepare, ID: api.MaxGen - 3, Slots: []api.Slot{{}}}), api.OK)
	p = opened(t, a, s, 3)
	// IDs from MaxGen - 2 on are left.
	x, y := strings.Repeat("x", 25), strings.Repeat("x", 16)
	want(t, "IDs", p.Add(x, of(x)), api.ErrLimit)
	want(t, "IDs", p.Add(y, of(y)), api.OK)
	want(t, "no IDs are left", p.Add(y[1:], of(y[1:])), api.ErrLimit)
	want(t, "none is asked for", p.Add("", of("")), api.OK)
	if q := opened(t, a, s, 3); q.Book().Next != api.MaxGen {
		t.Errorf("next: %d", q.Book().Next)
	}
}

func TestBehindAnError(t *testing.T) {
	s := api.Shape{K: 2, M: 1, Size: 4}
	a := disks(t, 4, s, 3)
	p := made(t, a, s, 3)
	want(t, "add", p.Add("ab", of("ab")), api.OK)
	a.Off(1)
	want(t, "off", p.Add("xyz", of("xyz")), api.ErrOff)
	if _, e := p.Text(digest.Of("ab")); e != api.ErrLost {
		t.Errorf("text, off: %d", e)
	}
	if p.Good() != 0 || p.All() != 3 {
		t.Errorf("off: %d of %d", p.Good(), p.All())
	}
	a.Crash(nil)
	before := p.Book()
	want(t, "form ahead", p.Add("x", of("")), api.ErrForm)
	_, e1 := p.Step()
	_, e2 := p.Balance()
	for i, e := range []api.Errno{p.Add("ab", of("ab")), p.Add("", of("")), e1, e2} {
		if e != api.ErrState {
			t.Errorf("call %d: %d", i, e)
		}
	}
	if y, e := p.Text(digest.Of("ab")); y != "ab" || e != api.OK || !same(p.Book(), before) || p.Good() != 3 {
		t.Errorf("reading goes on: %q, %d", y, e)
	}
	p = opened(t, a, s, 3)
	want(t, "opened", p.Add("xyz", of("xyz")), api.OK)
	tag := api.Record{Kind: api.RecTag, Name: "a", Digest: digest.Of("ab")}
	a.Off(0)
	want(t, "note, off", p.Note(tag), api.ErrOff)
	a.Crash(nil)
	_, e1 = p.Step()
	_, e2 = p.Balance()
	for i, e := range []api.Errno{p.Add("c", of("c")), p.Note(tag), p.Drop(digest.Of("ab")), e1, e2} {
		if e != api.ErrState {
			t.Errorf("behind the journal's error, call %d: %d", i, e)
		}
	}
	if len(p.Book().Tags) != 0 {
		t.Errorf("tags: %v", p.Book().Tags)
	}
	want(t, "opened", opened(t, a, s, 3).Note(tag), api.OK)
}

func TestNote(t *testing.T) {
	s := api.Shape{K: 1, M: 0, Size: 4}
	a := disks(t, 3, s, 3)
	p := made(t, a, s, 3)
	tag := func(name string) api.Record {
		return api.Record{Kind: api.RecTag, Name: name, Digest: digest.Of(name)}
	}
	untag := func(name string) api.Record { return api.Record{Kind: api.RecUntag, Name: name} }
	want(t, "none", p.Note(), api.OK)
	want(t, "form", p.Note(tag("a"), api.Record{Kind: api.RecTag, Name: "a"}), api.ErrForm)
	want(t, "form", p.Note(of("")), api.ErrForm)
	want(t, "none", p.Note(untag("a")), api.ErrNone)
	want(t, "none", p.Note(tag("b"), untag("b"), untag("b")), api.ErrNone)
	if len(p.Book().Tags) != 0 {
		t.Errorf("tags: %v", p.Book().Tags)
	}
	want(t, "tags", p.Note(tag("c"), tag("a"), tag("b"), untag("a"), tag("b")), api.OK)
	if b := p.Book(); !slices.Equal(b.Tags, []api.Tag{{Name: "b", Digest: digest.Of("b")}, {Name: "c", Digest: digest.Of("c")}}) {
		t.Errorf("tags: %v", b.Tags)
	}
	l := []api.Record{}
	for i := range 39 {
		l = append(l, tag("t"+string([]byte{byte(i + 1)})))
	}
	want(t, "too many", p.Note(l...), api.ErrLimit)
	if len(p.Book().Tags) != 2 {
		t.Errorf("tags: %d", len(p.Book().Tags))
	}
	want(t, "just as many", p.Note(append([]api.Record{untag("b")}, l...)...), api.OK)
	want(t, "one more", p.Note(tag("b")), api.ErrLimit)
	want(t, "in the place of one", p.Note(tag("c")), api.OK)
	if len(p.Book().Tags) != 40 {
		t.Errorf("tags: %d", len(p.Book().Tags))
	}
	// More than the journal has room for, by and by.
	many := slices.Repeat([]api.Record{untag("c"), tag("c")}, 200)
	for range 9 {
		want(t, "many", p.Note(many...), api.OK)
	}
	if q := opened(t, a, s, 3); !same(q.Book(), p.Book()) || len(p.Book().Tags) != 40 {
		t.Errorf("opened: %d tags", len(q.Book().Tags))
	}
}

func TestDrop(t *testing.T) {
	r := rand.New(rand.NewSource(45))
	s := api.Shape{K: 2, M: 1, Size: 10}
	a := disks(t, 5, s, 9)
	p := made(t, a, s, 9)
	texts := []string{}
	for _, n := range []int{0, 5, 50, 70} {
		x := text(r, n)
		texts = append(texts, x)
		want(t, "add", p.Add(x, of(x)), api.OK)
	}
	before := p.Book()
	d := func(i int) string { return digest.Of(texts[i]) }
	want(t, "of none", p.Drop(), api.OK)
	want(t, "none", p.Drop(d(1), "x"), api.ErrNone)
	want(t, "twice", p.Drop(d(1), d(2), d(1)), api.ErrNone)
	if !same(p.Book(), before) || !same(opened(t, a, s, 9).Book(), before) {
		t.Fatalf("something has changed")
	}
	p = opened(t, a, s, 9)
	want(t, "drop", p.Drop(d(2), d(0)), api.OK)
	for i, e := range []api.Errno{api.ErrNone, api.OK, api.ErrNone, api.OK} {
		if x, f := p.Text(d(i)); f != e || e == api.OK && x != texts[i] || e != api.OK && x != "" {
			t.Errorf("text %d: %d", i, f)
		}
	}
	n, _ := slots.Count(p.Slots())
	if free, _ := book.Free(s, p.Book()); len(free) != 0 || n != 45-p.All() || p.All() != 5*3 {
		t.Errorf("free: %v, %d of %d", free, n, p.All())
	}
	next := p.Book().Next
	want(t, "drop", p.Drop(d(1), d(3)), api.OK)
	if b := p.Book(); len(b.Stripes) != 0 || len(b.Things) != 0 || b.Next != next || !same(opened(t, a, s, 9).Book(), b) {
		t.Errorf("all gone: %v", b)
	}
}

// TestJournalIsNeverFull adds and drops for long.
func TestJournalIsNeverFull(t *testing.T) {
	r := rand.New(rand.NewSource(46))
	s := api.Shape{K: 1, M: 1, Size: 20}
	a := disks(t, 4, s, 20)
	p := made(t, a, s, 20)
	last := ""
	for i := range 500 {
		x := text(r, 400)
		want(t, "add", p.Add(x, of(x)), api.OK)
		if last != "" {
			want(t, "drop", p.Drop(digest.Of(last)), api.OK)
		}
		last = x
		want(t, "tag", p.Note(api.Record{Kind: api.RecTag, Name: "x" + string([]byte{byte(i%30 + 1)}), Digest: digest.Of(x)}), api.OK)
		if i%100 == 0 {
			if q := opened(t, a, s, 20); !same(q.Book(), p.Book()) {
				t.Fatalf("round %d: opened", i)
			}
			p = opened(t, a, s, 20)
		}
		if t.Failed() {
			t.Fatalf("round %d", i)
		}
	}
	if y, e := p.Text(digest.Of(last)); y != last || e != api.OK {
		t.Errorf("text: %d", e)
	}
}

// TestGood: a shard of another stripe, generation or length, or a turned one, is none.
func TestGood(t *testing.T) {
	s := api.Shape{K: 2, M: 2, Size: 10}
	a := disks(t, 4, s, 2)
	p := made(t, a, s, 2)
	want(t, "add", p.Add("hello", of("hello")), api.OK)
	for i, x := range []api.Shard{{Stripe: 1, Index: 0, Text: "0123456789"}, {Index: 1, Text: "0123456789"}, {Gen: 1, Index: 0, Text: "0123456789"}, {Index: 0, Text: "012345678"}} {
		l, _ := shard.Sectors(x)
		want(t, "write", a.Write(0, api.Area, l[0]), api.OK)
		if p.Good() != 3 {
			t.Errorf("row %d: %d good", i, p.Good())
		}
		if y, e := p.Text(digest.Of("hello")); y != "hello" || e != api.OK {
			t.Errorf("row %d: %q, %d", i, y, e)
		}
	}
	a.Flush(0)
	a.Flip(1, 8*64*api.Area+100)
	if y, e := p.Text(digest.Of("hello")); y != "hello" || e != api.OK || p.Good() != 2 {
		t.Errorf("two: %q, %d", y, e)
	}
	a.Lose(3)
	if y, e := p.Text(digest.Of("hello")); y != "" || e != api.ErrLost || p.Good() != 1 {
		t.Errorf("one: %q, %d", y, e)
	}
	if is, e := p.Step(); is || e != api.OK {
		t.Errorf("too few to mend: %v, %d", is, e)
	}
	if _, e := p.Text("x"); e != api.ErrNone {
		t.Errorf("no such thing: %d", e)
	}
	// A good shard that was laid by hand, of the right one, is as good as any.
	l, _ := shard.Sectors(api.Shard{Text: "hello\x00\x00\x00\x00\x00"})
	a.Write(0, api.Area, l[0])
	if y, e := p.Text(digest.Of("hello")); y != "hello" || e != api.OK {
		t.Errorf("by hand: %q, %d", y, e)
	}
}

// TestSteps: behind as many steps as there are pieces all are good, on disks that live.
func TestSteps(t *testing.T) {
	r := rand.New(rand.NewSource(47))
	for round := range 40 {
		s := api.Shape{K: 1 + r.Intn(3), M: 1 + r.Intn(3), Size: 1 + r.Intn(30)}
		many := s.K + s.M + r.Intn(4)
		a := disks(t, many, s, 16)
		p := made(t, a, s, 16)
		texts := []string{}
		for range 3 {
			x := text(r, r.Intn(2*s.K*s.Size))
			if e := p.Add(x, of(x)); e == api.OK {
				texts = append(texts, x)
			}
		}
		f := min(s.M, (many-1)/2)
		for d := range f {
			switch r.Intn(3) {
			case 0:
				a.Replace(d)
			case 1:
				if many-d > s.K+s.M {
					a.Lose(d)
				}
			default:
				for at := range 16 {
					a.Flip(d, 8*(64*(api.Area+at)+r.Intn(64)))
				}
			}
		}
		if r.Intn(2) == 0 {
			p = opened(t, a, s, 16)
		}
		live := 0
		for d := range many {
			if a.Live(d) {
				live++
			}
		}
		if live < s.K+s.M {
			continue
		}
		bad := p.All() - p.Good()
		wrote := 0
		for range p.All() {
			is, e := p.Step()
			want(t, "step", e, api.OK)
			if is {
				wrote++
			}
		}
		a.Crash(nil)
		if p.Good() != p.All() || (wrote > 0) != (bad > 0) {
			t.Fatalf("round %d: %d of %d good, %d steps wrote", round, p.Good(), p.All(), wrote)
		}
		b := p.Book()
		for _, x := range b.Stripes {
			if place.Check(s, x) != api.OK || x.Gen != 0 {
				t.Fatalf("round %d: %v", round, x)
			}
			for _, at := range x.Place {
				if !a.Live(at.Disk) {
					t.Fatalf("round %d: on a lost disk: %v", round, x)
				}
			}
		}
		n, _ := slots.Count(p.Slots())
		if book.Check(s, b) != api.OK || n != 16*live-p.All() || !same(opened(t, a, s, 16).Book(), b) {
			t.Fatalf("round %d: the book", round)
		}
		p = opened(t, a, s, 16)
		for _, x := range texts {
			if y, e := p.Text(digest.Of(x)); y != x || e != api.OK {
				t.Fatalf("round %d: text: %d", round, e)
			}
		}
		if is, e := p.Step(); is || e != api.OK {
			t.Fatalf("round %d: a step more: %v, %d", round, is, e)
		}
	}
}

func TestStepGoesRound(t *testing.T) {
	s := api.Shape{K: 1, M: 1, Size: 4}
	a := disks(t, 3, s, 6)
	p := made(t, a, s, 6)
	if is, e := p.Step(); is || e != api.OK {
		t.Errorf("of no stripes: %v, %d", is, e)
	}
	want(t, "add", p.Add("abcdefgh", of("abcdefgh")), api.OK)
	// Stripe 0 lies on disks 0 and 1, stripe 1 on 2 and 0.
	if x, y := stripe(t, p, 0).Place, stripe(t, p, 1).Place; x[1].Disk != 1 || y[0].Disk != 2 {
		t.Fatalf("%v, %v", x, y)
	}
	a.Replace(2)
	steps := []bool{}
	for range 6 {
		is, e := p.Step()
		want(t, "step", e, api.OK)
		steps = append(steps, is)
	}
	if !slices.Equal(steps, []bool{false, false, true, false, false, false}) {
		t.Errorf("steps: %v", steps)
	}
	// No room anywhere else: nothing happens, and that is no error.
	a.Lose(1)
	a.Lose(2)
	for range 4 {
		if is, e := p.Step(); is || e != api.OK {
			t.Errorf("no disk to go to: %v, %d", is, e)
		}
	}
}

func TestBalance(t *testing.T) {
	s := api.Shape{K: 1, M: 1, Size: 4}
	a := disks(t, 4, s, 6)
	p := made(t, a, s, 6)
	a.Lose(3)
	want(t, "add", p.Add("abcdefghijklmnopqrst", of("abcdefghijklmnopqrst")), api.OK)
	if is, e := p.Balance(); is || e != api.OK {
		t.Errorf("even: %v, %d", is, e)
	}
	a.Replace(3)
	moved := 0
	for range 20 {
		n, f := place.Shift(s, p.Book().Stripes, p.Slots())
		before := p.Book()
		is, e := p.Balance()
		if is != (f == api.OK) || e != api.OK {
			t.Fatalf("%v, %d, %d", is, e, f)
		}
		if !is {
			break
		}
		y, _, _ := place.Moved(s, before.Stripes[slices.IndexFunc(before.Stripes, func(x api.Stripe) bool { return x.ID == n.Stripe })], n)
		a.Crash(nil)
		if !slices.Equal(stripe(t, p, n.Stripe).Place, y.Place) || p.Good() != p.All() {
			t.Fatalf("moved: %v", stripe(t, p, n.Stripe))
		}
		moved++
	}
	if spread, _ := place.Spread(p.Slots()); spread > 1 || moved == 0 {
		t.Errorf("spread: %d, moved: %d", spread, moved)
	}
	if q := opened(t, a, s, 6); !same(q.Book(), p.Book()) || q.Good() != q.All() {
		t.Errorf("opened")
	}
	// A shard that is not good stays where it is.
	a = disks(t, 3, s, 6)
	p = made(t, a, s, 6)
	a.Lose(2)
	want(t, "add", p.Add("abcdefgh", of("abcdefgh")), api.OK)
	a.Replace(2)
	a.Flip(0, 8*64*api.Area)
	before := p.Book()
	if is, e := p.Balance(); is || e != api.OK || !same(p.Book(), before) {
		t.Errorf("not good: %v, %d", is, e)
	}
}

func TestBookIsACopy(t *testing.T) {
	s := api.Shape{K: 1, M: 1, Size: 4}
	p := made(t, disks(t, 3, s, 6), s, 6)
	want(t, "add", p.Add("ab", of("ab")), api.OK)
	want(t, "tag", p.Note(api.Record{Kind: api.RecTag, Name: "a", Digest: digest.Of("ab")}), api.OK)
	b, before := p.Book(), p.Book()
	b.Stripes[0].Place[0].At, b.Things[0].List[0], b.Tags[0].Name, b.Stripes[0].Len = 5, 5, "z", 1
	if !same(p.Book(), before) {
		t.Errorf("it has changed: %v", p.Book())
	}
	x, y := p.Slots(), p.Slots()
	x.Free[0][0], x.Live[0] = 60, false
	if !slices.Equal(p.Slots().Free[0], y.Free[0]) || !p.Slots().Live[0] {
		t.Errorf("slots have changed")
	}
}

// TestCrashes: power goes at each change of any deed: it is done, or not; done, if it was told; all texts are there.
func TestCrashes(t *testing.T) {
	r := rand.New(rand.NewSource(48))
	for round := range 120 {
		s := api.Shape{K: 1 + r.Intn(3), M: r.Intn(3), Size: 1 + r.Intn(25)}
		many := s.K + s.M + r.Intn(3)
		f := min(s.M, (many-1)/2)
		a := disks(t, many, s, 12)
		p := made(t, a, s, 12)
		texts := map[string]string{}
		for step := range 12 {
			for d := range f {
				switch r.Intn(9) {
				case 0:
					a.Lose(d)
				case 1:
					a.Replace(d)
				case 2:
					a.Flip(d, r.Intn(1<<30))
				}
			}
			before := p.Book()
			after := before
			x := text(r, r.Intn(3*s.K*s.Size))
			a.Off(r.Intn(80))
			var e api.Errno
			kind := r.Intn(5)
			switch kind {
			case 0, 1:
				if e = p.Add(x, of(x)); e == api.OK || e == api.ErrOff {
					texts[digest.Of(x)] = x
				}
			case 2:
				if all := slices.Sorted(maps.Keys(texts)); len(all) > 0 {
					e = p.Drop(all[r.Intn(len(all))])
				}
			case 3:
				_, e = p.Step()
			default:
				_, e = p.Balance()
			}
			if after = p.Book(); e != api.OK && !same(after, before) {
				t.Fatalf("round %d, step %d: an error, and the book has changed", round, step)
			}
			l := []int{}
			for range r.Intn(7) {
				l = append(l, r.Intn(2))
			}
			a.Crash(l)
			q, g := Open(a, s, 12)
			if g != api.OK {
				t.Fatalf("round %d, step %d: open: %d", round, step, g)
			}
			b := q.Book()
			if e == api.OK && !same(b, after) {
				t.Fatalf("round %d, step %d: told, but not there", round, step)
			}
			if book.Check(s, b) != api.OK {
				t.Fatalf("round %d, step %d: the book", round, step)
			}
			if free, _ := book.Free(s, b); len(free) != 0 {
				t.Fatalf("round %d, step %d: nobody's stripes: %v", round, step, free)
			}
			for d := range texts {
				if !slices.ContainsFunc(b.Things, func(x api.Entry) bool { return x.Digest == d }) {
					if kind > 2 || kind < 2 && d != digest.Of(x) {
						t.Fatalf("round %d, step %d: a text is gone", round, step)
					}
					delete(texts, d)
				}
			}
			if len(b.Things) != len(texts) {
				t.Fatalf("round %d, step %d: %d things, %d texts", round, step, len(b.Things), len(texts))
			}
			for d, x := range texts {
				if y, e := q.Text(d); y != x || e != api.OK {
					t.Fatalf("round %d, step %d: text: %d", round, step, e)
				}
			}
			p = q
			if r.Intn(2) == 0 {
				mend(t, p, s)
			}
		}
	}
}

// TestCrashesWhereTheJournalIsFull: power goes while the journal is begun anew, too.
func TestCrashesWhereTheJournalIsFull(t *testing.T) {
	s := api.Shape{K: 1, M: 0, Size: 4}
	tag := func(c byte) api.Record {
		return api.Record{Kind: api.RecTag, Name: string([]byte{c}), Digest: digest.Of(string([]byte{c}))}
	}
	many := slices.Repeat([]api.Record{tag(1), {Kind: api.RecUntag, Name: "\x01"}}, 200)
	told := 0
	for off := 0; off < 1200; off += 7 {
		a := disks(t, 1, s, 1)
		p := made(t, a, s, 1)
		want(t, "first", p.Note(append(slices.Clone(many), tag(2))...), api.OK)
		want(t, "second", p.Note(append(slices.Clone(many), tag(3))...), api.OK)
		before := p.Book()
		a.Off(off)
		e := p.Note(append(slices.Clone(many), tag(4))...)
		after := p.Book()
		if e != api.OK && (e != api.ErrOff || !same(after, before)) || e == api.OK && len(after.Tags) != 3 {
			t.Fatalf("off %d: %d, %d tags", off, e, len(after.Tags))
		}
		if e == api.OK {
			told++
		}
		a.Crash([]int{off % 2, 1, 1, off / 2 % 2})
		b := opened(t, a, s, 1).Book()
		if same(b, after) || e != api.OK && len(b.Tags) == 3 {
			continue
		}
		t.Fatalf("off %d: %d, then %d tags", off, e, len(b.Tags))
	}
	if told == 0 || told > 160 {
		t.Errorf("told OK: %d", told)
	}
}

// mend does as many steps as there are pieces: where there is room, all are good behind them.
func mend(t *testing.T, p *Pool, s api.Shape) {
	t.Helper()
	x, stripes, live := p.Slots(), len(p.Book().Stripes), 0
	room := true
	for d, is := range x.Live {
		if is {
			live++
			room = room && len(x.Free[d]) >= stripes
		}
	}
	for range p.All() {
		_, e := p.Step()
		want(t, "step", e, api.OK)
	}
	if room && live >= s.K+s.M && p.Good() != p.All() {
		t.Fatalf("%d of %d good", p.Good(), p.All())
	}
}
