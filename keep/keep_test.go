package keep_test

import (
	"math/rand"
	"slices"
	"strings"
	"testing"

	"silo/api"
	"silo/array"
	"silo/cut"
	"silo/digest"
	"silo/journal"
	. "silo/keep"
	"silo/manifest"
	"silo/model"
	"silo/pool"
	"silo/shard"
)

func want(t *testing.T, what string, e, w api.Errno) {
	t.Helper()
	if e != w {
		t.Errorf("%s: %d, not %d", what, e, w)
	}
}

func disks(t *testing.T, many int, s api.Shape, n int) *array.Array {
	t.Helper()
	sectors, _ := shard.Count(s.Size)
	a, e := array.New(many, api.Area+n*sectors)
	if e != api.OK {
		t.Fatalf("array: %d", e)
	}
	return a
}

func fresh(t *testing.T, a *array.Array, s api.Shape, n int) *Keep {
	t.Helper()
	k, e := New(a, s, n)
	if k == nil || e != api.OK {
		t.Fatalf("new: %d", e)
	}
	return k
}

func same(a, b api.State) bool {
	return slices.Equal(a.Things, b.Things) && slices.Equal(a.Tags, b.Tags) && slices.Equal(a.Sessions, b.Sessions) && a.Next == b.Next
}

// upload brings a text.
func upload(t *testing.T, k *Keep, text string) {
	t.Helper()
	r := k.Do(api.Op{Kind: api.OpStart})
	want(t, "chunk", api.Errno(k.Do(api.Op{Kind: api.OpChunk, ID: r.N, Text: text}).Err), api.OK)
	want(t, "finish", api.Errno(k.Do(api.Op{Kind: api.OpFinish, ID: r.N, Digest: digest.Of(text)}).Err), api.OK)
}

// bytes is a manifest's.
func bytes(blobs ...string) string {
	m := api.Manifest{}
	for _, x := range blobs {
		m.Blobs = append(m.Blobs, digest.Of(x))
	}
	m, _ = manifest.Sorted(m)
	b, _ := manifest.Bytes(m)
	return b
}

func TestExample(t *testing.T) {
	s := api.Shape{K: 3, M: 2, Size: 100}
	a := disks(t, 6, s, 8)
	k := fresh(t, a, s, 8)
	text := strings.Repeat("hello ", 100)
	upload(t, k, text)
	if r := k.Do(api.Op{Kind: api.OpGet, Digest: digest.Of(text)}); r.Text != text || r.Err != 0 {
		t.Errorf("get: %d", r.Err)
	}
	if k.Good() != 10 || k.All() != 10 || k.Free() != 38 {
		t.Errorf("%d of %d good, %d free", k.Good(), k.All(), k.Free())
	}
	a.Lose(1)
	if k.Good() == 10 || k.All() != 10 {
		t.Errorf("lost: %d of %d good", k.Good(), k.All())
	}
	if r := k.Do(api.Op{Kind: api.OpRange, Digest: digest.Of(text), N: 6, M: 5}); r.Text != "hello" || r.Err != 0 {
		t.Errorf("range: %v", r)
	}
	for range k.All() {
		_, e := k.Step()
		want(t, "step", e, api.OK)
	}
	if k.Good() != 10 || k.Free() != 30 {
		t.Errorf("mended: %d good, %d free", k.Good(), k.Free())
	}
	a.Replace(1)
	is, e := k.Balance()
	if !is || e != api.OK || k.Good() != 10 || k.Free() != 38 {
		t.Errorf("balance: %v, %d", is, e)
	}
	k, e = Open(a, s, 8)
	if e != api.OK || k.State().Things[0].Text != text {
		t.Errorf("opened: %d", e)
	}
}

func TestErrorsOfNewAndOpen(t *testing.T) {
	s := api.Shape{K: 2, M: 1, Size: 9}
	a := disks(t, 4, s, 5)
	if k, e := New(nil, s, 5); k != nil || e != api.ErrForm {
		t.Errorf("nil: %d", e)
	}
	if k, e := New(a, s, 6); k != nil || e != api.ErrFull {
		t.Errorf("too many slots: %d", e)
	}
	if k, e := Open(a, s, 5); k != nil || e != api.ErrBad {
		t.Errorf("nothing there: %d", e)
	}
	if k, e := Open(a, api.Shape{}, 5); k != nil || e != api.ErrForm {
		t.Errorf("no shape: %d", e)
	}
}

// TestOpenBad: what lies there is no state's, or cannot be read, or is not its digest's.
func TestOpenBad(t *testing.T) {
	s := api.Shape{K: 2, M: 1, Size: 9}
	d := digest.Of("text")
	rows := []struct {
		name string
		do   func(*pool.Pool, *array.Array) api.Errno
		want api.Errno
	}{
		{"good", func(p *pool.Pool, a *array.Array) api.Errno {
			return p.Add("text", api.Record{Kind: api.RecBlob, ID: 4, Digest: d})
		}, api.OK},
		{"not its digest's", func(p *pool.Pool, a *array.Array) api.Errno {
			return p.Add("texs", api.Record{Kind: api.RecBlob, ID: 4, Digest: d})
		}, api.ErrBad},
		{"no manifest", func(p *pool.Pool, a *array.Array) api.Errno {
			return p.Add("text", api.Record{Kind: api.RecManifest, ID: 4, Digest: d})
		}, api.ErrBad},
		{"names what is not there", func(p *pool.Pool, a *array.Array) api.Errno {
			m := bytes("text")
			return p.Add(m, api.Record{Kind: api.RecManifest, ID: len(m), Digest: digest.Of(m)})
		}, api.ErrBad},
		{"a tag of nothing", func(p *pool.Pool, a *array.Array) api.Errno {
			return p.Note(api.Record{Kind: api.RecTag, Name: "a", Digest: d})
		}, api.ErrBad},
		{"a tag that is no name", func(p *pool.Pool, a *array.Array) api.Errno {
			m := bytes()
			p.Add(m, api.Record{Kind: api.RecManifest, ID: len(m), Digest: digest.Of(m)})
			return p.Note(api.Record{Kind: api.RecTag, Name: "A", Digest: digest.Of(m)})
		}, api.ErrBad},
		{"a tag that is one", func(p *pool.Pool, a *array.Array) api.Errno {
			m := bytes()
			p.Add(m, api.Record{Kind: api.RecManifest, ID: len(m), Digest: digest.Of(m)})
			return p.Note(api.Record{Kind: api.RecTag, Name: "a", Digest: digest.Of(m)})
		}, api.OK},
		{"two shards spoilt", func(p *pool.Pool, a *array.Array) api.Errno {
			a.Flip(0, 8*64*api.Area)
			a.Flip(1, 8*64*api.Area)
			e := p.Add("text", api.Record{Kind: api.RecBlob, ID: 4, Digest: d})
			a.Flip(0, 8*64*api.Area)
			a.Flip(1, 8*64*api.Area)
			return e
		}, api.ErrBad},
	}
	for _, row := range rows {
		a := disks(t, 3, s, 5)
		p, _ := pool.New(a, s, 5)
		want(t, row.name, row.do(p, a), api.OK)
		if k, e := Open(a, s, 5); e != row.want || (k == nil) != (e != api.OK) {
			t.Errorf("%s: %d", row.name, e)
		}
	}
	a := disks(t, 3, s, 5)
	j, _ := journal.New(a)
	j.Add(api.Record{Kind: api.RecUntag, Name: "x"})
	if k, e := Open(a, s, 5); k != nil || e != api.ErrBad {
		t.Errorf("no book: %d", e)
	}
}

// TestLostTexts: what cannot be read is told as lost, the rest goes on.
func TestLostTexts(t *testing.T) {
	s := api.Shape{K: 2, M: 1, Size: 9}
	a := disks(t, 5, s, 5)
	k := fresh(t, a, s, 5)
	upload(t, k, "first")
	m := bytes("first")
	want(t, "manifest", api.Errno(k.Do(api.Op{Kind: api.OpManifest, Text: m}).Err), api.OK)
	want(t, "tag", api.Errno(k.Do(api.Op{Kind: api.OpTag, Name: "a", Digest: digest.Of(m)}).Err), api.OK)
	a.Lose(0)
	a.Lose(1)
	d := digest.Of("first")
	before := k.State()
	for i, row := range []struct {
		o api.Op
		r api.Reply
	}{
		{api.Op{Kind: api.OpGet, Digest: d}, api.Reply{Err: int(api.ErrLost)}}, {api.Op{Kind: api.OpRange, Digest: d, N: 1, M: 1}, api.Reply{Err: int(api.ErrLost)}},
		{api.Op{Kind: api.OpStat, Digest: d}, api.Reply{N: 5}}, {api.Op{Kind: api.OpFind, Name: "a"}, api.Reply{Text: digest.Of(m)}}, {api.Op{Kind: api.OpGet, Digest: "x"}, api.Reply{Err: int(api.ErrNone)}},
		{api.Op{Kind: api.OpDelete, Digest: d}, api.Reply{Err: int(api.ErrUsed)}}, {api.Op{}, api.Reply{Err: int(api.ErrForm)}}, {api.Op{Kind: 14}, api.Reply{Err: int(api.ErrForm)}}, {api.Op{Kind: -1}, api.Reply{Err: int(api.ErrForm)}},
	} {
		if r := k.Do(row.o); r != row.r {
			t.Errorf("row %d: %v", i, r)
		}
	}
	x := k.State()
	if !same(x, before) || len(x.Things) != 2 || !slices.Contains(x.Things, api.Thing{Digest: d}) || len(x.Tags) != 1 {
		t.Fatalf("what is kept: %v", x)
	}
	// Shards that are good each, and yet no text of that digest.
	other, _ := shard.Sectors(api.Shard{Index: 0, Text: "other\x00\x00\x00\x00"})
	zeros, _ := shard.Sectors(api.Shard{Index: 1, Text: strings.Repeat("\x00", 9)})
	a.Replace(0)
	a.Replace(1)
	a.Write(0, api.Area, other[0])
	a.Write(1, api.Area, zeros[0])
	if r := k.Do(api.Op{Kind: api.OpGet, Digest: d}); r != (api.Reply{Err: int(api.ErrBad)}) {
		t.Errorf("get: %v", r)
	}
	if r := k.Do(api.Op{Kind: api.OpRange, Digest: d}); r != (api.Reply{Err: int(api.ErrBad)}) {
		t.Errorf("range: %v", r)
	}
}

// TestStuck: behind an error of the array nothing may be done but reading, until it is opened.
func TestStuck(t *testing.T) {
	s := api.Shape{K: 2, M: 1, Size: 9}
	m := bytes("first")
	for way := range 5 {
		a := disks(t, 4, s, 20)
		k := fresh(t, a, s, 20)
		upload(t, k, "first")
		upload(t, k, "second")
		want(t, "manifest", api.Errno(k.Do(api.Op{Kind: api.OpManifest, Text: m}).Err), api.OK)
		want(t, "tag", api.Errno(k.Do(api.Op{Kind: api.OpTag, Name: "a", Digest: digest.Of(m)}).Err), api.OK)
		r := k.Do(api.Op{Kind: api.OpStart})
		a.Off(1)
		want(t, "start, off", api.Errno(k.Do(api.Op{Kind: api.OpStart}).Err), api.OK)
		deeds := []api.Op{
			{Kind: api.OpFinish, ID: r.N, Digest: digest.Of("")}, {Kind: api.OpManifest, Text: bytes("second")}, {Kind: api.OpTag, Name: "b", Digest: digest.Of(m)},
			{Kind: api.OpUntag, Name: "a"}, {Kind: api.OpDelete, Digest: digest.Of("second")}, {Kind: api.OpSweep},
			{Kind: api.OpStart}, {Kind: api.OpChunk, ID: r.N, Text: "x"}, {Kind: api.OpAbort, ID: r.N},
		}
		want(t, "off", api.Errno(k.Do(deeds[way]).Err), api.ErrOff)
		if g := k.Do(api.Op{Kind: api.OpGet, Digest: digest.Of("first")}); g != (api.Reply{Err: int(api.ErrLost)}) {
			t.Errorf("way %d: get, off: %v", way, g)
		}
		a.Crash([]int{1})
		before := k.State()
		for i, o := range deeds {
			if g := k.Do(o); g != (api.Reply{Err: int(api.ErrState)}) {
				t.Errorf("way %d, deed %d: %v", way, i, g)
			}
		}
		for i, row := range []struct {
			o api.Op
			r api.Reply
		}{
			{api.Op{Kind: api.OpGet, Digest: digest.Of("first")}, api.Reply{Text: "first"}}, {api.Op{Kind: api.OpRange, Digest: digest.Of("first"), N: 1, M: 3}, api.Reply{Text: "irs"}},
			{api.Op{Kind: api.OpStat, Digest: digest.Of("second")}, api.Reply{N: 6}}, {api.Op{Kind: api.OpFind, Name: "a"}, api.Reply{Text: digest.Of(m)}}, {api.Op{Kind: api.OpFind, Name: "b"}, api.Reply{Err: int(api.ErrNone)}},
		} {
			if g := k.Do(row.o); g != row.r {
				t.Errorf("way %d, reading %d: %v", way, i, g)
			}
		}
		_, e1 := k.Step()
		_, e2 := k.Balance()
		if e1 != api.ErrState || e2 != api.ErrState || !same(k.State(), before) || len(before.Sessions) != 2 {
			t.Errorf("way %d: %d, %d", way, e1, e2)
		}
		k, e := Open(a, s, 20)
		want(t, "open", e, api.OK)
		want(t, "opened", api.Errno(k.Do(api.Op{Kind: api.OpSweep}).Err), api.OK)
	}
}

// TestPoolsErrors: where a thing comes, and there is no room, or too few disks live, that is told.
func TestPoolsErrors(t *testing.T) {
	s := api.Shape{K: 2, M: 1, Size: 4}
	a := disks(t, 5, s, 2)
	k := fresh(t, a, s, 2)
	finish := func(text string) api.Reply {
		r := k.Do(api.Op{Kind: api.OpStart})
		k.Do(api.Op{Kind: api.OpChunk, ID: r.N, Text: text})
		return k.Do(api.Op{Kind: api.OpFinish, ID: r.N, Digest: digest.Of(text)})
	}
	// Three stripes at most: two of these, none of those.
	x, y := strings.Repeat("x", 16), strings.Repeat("y", 16)
	if r := finish(x); r != (api.Reply{N: 16}) {
		t.Errorf("finish: %v", r)
	}
	before := k.State()
	if r := finish(y); r != (api.Reply{Err: int(api.ErrFull)}) {
		t.Errorf("full: %v", r)
	}
	if r := k.Do(api.Op{Kind: api.OpManifest, Text: bytes(x)}); r != (api.Reply{Err: int(api.ErrFull)}) {
		t.Errorf("a manifest, full: %v", r)
	}
	if r := k.Do(api.Op{Kind: api.OpManifest, Text: bytes("y")}); r != (api.Reply{Err: int(api.ErrNone)}) {
		t.Errorf("the model's errors first: %v", r)
	}
	if r := finish(x); r != (api.Reply{N: 16}) {
		t.Errorf("it is there: %v", r)
	}
	if s := k.State(); !slices.Equal(s.Things, before.Things) || len(s.Sessions) != 1 || s.Sessions[0].Text != y {
		t.Errorf("the session stays: %v", s.Sessions)
	}
	if r := finish("z"); r != (api.Reply{N: 1}) {
		t.Errorf("it fits: %v", r)
	}
	// Five disks of which two live: too few for a stripe, and for the journal.
	a.Lose(0)
	a.Lose(1)
	a.Lose(2)
	if r := finish("w"); r != (api.Reply{Err: int(api.ErrFew)}) {
		t.Errorf("few: %v", r)
	}
	if r := k.Do(api.Op{Kind: api.OpSweep}); r != (api.Reply{Err: int(api.ErrFew)}) {
		t.Errorf("sweep, few: %v", r)
	}
	if s := k.State(); len(s.Things) != 2 || len(s.Sessions) != 2 {
		t.Errorf("nothing has changed: %v", s.Sessions)
	}
	// Behind the journal's error the pool is in no state for it, and behind that the store.
	if r := k.Do(api.Op{Kind: api.OpSweep}); r != (api.Reply{Err: int(api.ErrState)}) {
		t.Errorf("sweep again: %v", r)
	}
	if r := k.Do(api.Op{Kind: api.OpStart}); r != (api.Reply{Err: int(api.ErrState)}) {
		t.Errorf("start: %v", r)
	}
}

// TestMemory: what is told is new memory.
func TestMemory(t *testing.T) {
	s := api.Shape{K: 1, M: 1, Size: 50}
	k := fresh(t, disks(t, 3, s, 5), s, 5)
	upload(t, k, "first")
	m := bytes("first")
	k.Do(api.Op{Kind: api.OpManifest, Text: m})
	k.Do(api.Op{Kind: api.OpTag, Name: "a", Digest: digest.Of(m)})
	k.Do(api.Op{Kind: api.OpStart})
	x, before := k.State(), k.State()
	x.Things[0].Text, x.Tags[0].Name, x.Sessions[0].ID = "y", "y", 7
	if !same(k.State(), before) || len(before.Things) != 2 {
		t.Errorf("it has changed")
	}
}

// try is one random store, and the model beside it.
type try struct {
	r     *rand.Rand
	s     api.Shape
	n     int
	f     int
	a     *array.Array
	k     *Keep
	state api.State
}

// op is one that may have something to do.
func (x *try) op() api.Op {
	r := x.r
	o := api.Op{Kind: 1 + r.Intn(13), ID: x.state.Next - 1 - r.Intn(2), N: r.Intn(9), M: r.Intn(99), Name: []string{"a", "b/c", "d:1", "E"}[r.Intn(4)], Text: strings.Repeat(string([]byte{byte('a' + r.Intn(9))}), r.Intn(70))}
	if len(x.state.Things) > 0 {
		o.Digest = x.state.Things[r.Intn(len(x.state.Things))].Digest
	}
	if n := len(x.state.Sessions); n > 0 && r.Intn(5) > 0 {
		o.ID = x.state.Sessions[r.Intn(n)].ID
	}
	if n := len(x.state.Tags); n > 0 && r.Intn(3) > 0 {
		o.Name = x.state.Tags[r.Intn(n)].Name
	}
	switch o.Kind {
	case api.OpSweep:
		if r.Intn(6) > 0 {
			o.Kind = api.OpFinish
		}
	case api.OpDelete, api.OpAbort:
		if r.Intn(3) > 0 {
			o.Kind = api.OpChunk
		}
	case api.OpManifest:
		blobs := []string{}
		for _, y := range x.state.Things {
			if !y.Manifest && r.Intn(4) == 0 {
				blobs = append(blobs, y.Text)
			}
		}
		o.Text = bytes(blobs...)
	case api.OpTag:
		for _, y := range x.state.Things {
			if y.Manifest && r.Intn(2) == 0 {
				o.Digest = y.Digest
			}
		}
	}
	if o.Kind == api.OpFinish {
		for _, y := range x.state.Sessions {
			if y.ID == o.ID {
				o.Digest = digest.Of(y.Text)
			}
		}
	}
	return o
}

// deed is an op that changes something on disks, if there is one.
func (x *try) deed() api.Op {
	o := x.op()
	for range 60 {
		next, _, _ := model.Do(x.state, o)
		if len(next.Things) != len(x.state.Things) || !slices.Equal(next.Tags, x.state.Tags) {
			break
		}
		o = x.op()
	}
	return o
}

// hurt does something to the first disks.
func (x *try) hurt() {
	for d := range x.f {
		switch x.r.Intn(12) {
		case 0:
			x.a.Lose(d)
		case 1:
			x.a.Replace(d)
		case 2:
			x.a.Flip(d, x.r.Intn(1<<30))
		case 3:
			x.a.Flip(d, 8*(64*api.Area+x.r.Intn(64*4)))
		}
	}
}

// do does an op of both, and holds them against each other: T1.
func (x *try) do(t *testing.T) {
	t.Helper()
	o := x.op()
	next, want, e := model.Do(x.state, o)
	if e != api.OK {
		t.Fatalf("the model: %d", e)
	}
	is := x.k.Do(o)
	full := is == api.Reply{Err: int(api.ErrFull)} || is == api.Reply{Err: int(api.ErrFew)}
	if full && len(next.Things) > len(x.state.Things) {
		next, want = x.state, is
	}
	if is != want {
		t.Fatalf("%v: %v, not %v", o, is, want)
	}
	x.state = next
	if !same(x.k.State(), x.state) {
		t.Fatalf("%v: what is kept", o)
	}
}

// crash does an op while the power goes, and opens, maybe more than once: T2.
func (x *try) crash(t *testing.T) {
	t.Helper()
	o := x.deed()
	next, _, _ := model.Do(x.state, o)
	x.a.Off(x.r.Intn([]int{12, 40, 90}[x.r.Intn(3)]))
	reply := x.k.Do(o)
	ahead, _ := model.Opened(x.state)
	behind, _ := model.Opened(next)
	for range x.r.Intn(3) {
		x.a.Crash(x.picks())
		x.hurt()
		x.a.Off(x.r.Intn(90))
		if k, e := Open(x.a, x.s, x.n); e == api.OK {
			x.a.Off(-1)
			s := k.State()
			if !same(s, ahead) && !same(s, behind) {
				// The power went behind opening, and what cannot be read is empty.
				continue
			}
			ahead, behind, reply = s, s, api.Reply{}
		} else if e != api.ErrOff && e != api.ErrBad {
			t.Fatalf("opening: %d", e)
		}
	}
	x.a.Crash(x.picks())
	for range 2 {
		k, e := Open(x.a, x.s, x.n)
		if e != api.OK {
			t.Fatalf("%v: open: %d", o, e)
		}
		s := k.State()
		if !same(s, behind) && (reply.Err == 0 || !same(s, ahead)) {
			t.Fatalf("%v, told %v: what is kept", o, reply)
		}
		x.k, x.state, ahead, behind = k, s, s, s
		x.hurt()
	}
}

func (x *try) picks() []int {
	l := []int{}
	for range x.r.Intn(7) {
		l = append(l, x.r.Intn(2))
	}
	return l
}

// live is how many disks live.
func (x *try) live() int {
	n := 0
	for d := range x.a.Disks() {
		if x.a.Live(d) {
			n++
		}
	}
	return n
}

// mend does as many steps as there are pieces: T4. No disk has a slot of a stripe more than once.
func (x *try) mend(t *testing.T) {
	t.Helper()
	stripes := x.k.All() / (x.s.K + x.s.M)
	for range x.k.All() {
		if _, e := x.k.Step(); e != api.OK {
			t.Fatalf("step: %d", e)
		}
	}
	if x.live() >= x.s.K+x.s.M && x.n >= 2*stripes {
		if x.k.Good() != x.k.All() || x.k.Free() != x.live()*x.n-x.k.All() {
			t.Fatalf("%d of %d good, %d free", x.k.Good(), x.k.All(), x.k.Free())
		}
	}
	if _, e := x.k.Balance(); e != api.OK {
		t.Fatalf("balance: %d", e)
	}
	if !same(x.k.State(), x.state) {
		t.Fatalf("mended: what is kept")
	}
}

// swept sweeps, and holds what is kept against T5.
func (x *try) swept(t *testing.T) {
	t.Helper()
	r := x.k.Do(api.Op{Kind: api.OpSweep})
	next, want, _ := model.Do(x.state, api.Op{Kind: api.OpSweep})
	x.state = next
	pieces := 0
	for _, y := range next.Things {
		n, _ := cut.Stripes(x.s, len(y.Text))
		pieces += n * (x.s.K + x.s.M)
	}
	if r != want || !same(x.k.State(), next) || x.k.All() != pieces {
		t.Fatalf("sweep: %v, not %v, %d pieces", r, want, x.k.All())
	}
	x.mend(t)
}

// TestTheorems plays stores beside the model.
func TestTheorems(t *testing.T) {
	for seed := range 150 {
		r := rand.New(rand.NewSource(int64(seed)))
		s := api.Shape{K: 1 + r.Intn(3), M: r.Intn(3), Size: 8 + r.Intn(20)}
		many := s.K + s.M + r.Intn(3)
		x := try{r: r, s: s, n: 10 + r.Intn(10), f: min(s.M, (many-1)/2)}
		for x.n*many/(s.K+s.M)*(45+8*(s.K+s.M)) > 8000 {
			x.n--
		}
		x.a = disks(t, many, s, x.n)
		x.k = fresh(t, x.a, s, x.n)
		for range 100 {
			x.hurt()
			switch r.Intn(12) {
			case 0, 1:
				x.crash(t)
			case 2:
				x.mend(t)
			case 3:
				if r.Intn(4) == 0 {
					x.swept(t)
				}
			default:
				x.do(t)
			}
		}
	}
}
