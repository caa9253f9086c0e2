package journal_test

import (
	"math/rand"
	"slices"
	"strings"
	"testing"

	"silo/api"
	"silo/array"
	. "silo/journal"
	"silo/record"
)

// disks is an array with so many.
func disks(t *testing.T, n int) *array.Array {
	t.Helper()
	a, e := array.New(n, api.Area+3)
	if e != api.OK {
		t.Fatalf("array: %d", e)
	}
	return a
}

// made is a new journal.
func made(t *testing.T, a *array.Array) *Journal {
	t.Helper()
	j, e := New(a)
	if j == nil || e != api.OK {
		t.Fatalf("new: %d", e)
	}
	return j
}

// opened is the journal that is there.
func opened(t *testing.T, a *array.Array) *Journal {
	t.Helper()
	j, e := Open(a)
	if j == nil || e != api.OK {
		t.Fatalf("open: %d", e)
	}
	return j
}

func same(a, b []api.Record) bool {
	return slices.EqualFunc(a, b, func(x, y api.Record) bool {
		return x.Kind == y.Kind && x.ID == y.ID && x.Name == y.Name && x.Digest == y.Digest && slices.Equal(x.List, y.List) && slices.Equal(x.Slots, y.Slots)
	})
}

// some is n records, each unlike the others.
func some(r *rand.Rand, n int) []api.Record {
	l := []api.Record{}
	for range n {
		d := make([]byte, 32)
		r.Read(d)
		switch r.Intn(3) {
		case 0:
			l = append(l, api.Record{Kind: api.RecFree, ID: r.Intn(api.MaxGen)})
		case 1:
			l = append(l, api.Record{Kind: api.RecBlob, ID: 7, Digest: string(d), List: r.Perm(r.Intn(60))})
		default:
			l = append(l, api.Record{Kind: api.RecCommit, ID: r.Intn(1000), List: []int{1, 0}, Slots: []api.Slot{{Disk: -1, At: 0}, {Disk: 2, At: r.Intn(64)}}})
		}
	}
	return l
}

// copied is records of their own memory.
func copied(l []api.Record) []api.Record {
	m := slices.Clone(l)
	for i, r := range m {
		m[i].List, m[i].Slots = slices.Clone(r.List), slices.Clone(r.Slots)
	}
	return m
}

func want(t *testing.T, what string, e, w api.Errno) {
	t.Helper()
	if e != w {
		t.Errorf("%s: %d, not %d", what, e, w)
	}
}

func TestNewAddOpen(t *testing.T) {
	r := rand.New(rand.NewSource(29))
	for _, n := range []int{1, 2, 3, 5, 12} {
		a := disks(t, n)
		j := made(t, a)
		all := []api.Record{}
		for range 12 {
			l := some(r, 1+r.Intn(6))
			want(t, "add", j.Add(l...), api.OK)
			all = append(all, l...)
			if !same(j.All(), all) {
				t.Fatalf("all: %d records", len(j.All()))
			}
			if r.Intn(3) == 0 {
				// What is not flushed is lost.
				a.Crash(nil)
				if j = opened(t, a); !same(j.All(), all) {
					t.Fatalf("not flushed: %d records of %d", len(j.All()), len(all))
				}
			}
			if r.Intn(5) == 0 {
				all = some(r, r.Intn(5))
				want(t, "reset", j.Reset(all...), api.OK)
			}
		}
		if j = opened(t, a); !same(j.All(), all) {
			t.Errorf("opened: %d records, not %d", len(j.All()), len(all))
		}
		if j = made(t, a); len(j.All()) != 0 || len(opened(t, a).All()) != 0 {
			t.Errorf("new over another one: %d records", len(j.All()))
		}
	}
}

func TestErrorsOfNewAndOpen(t *testing.T) {
	small, _ := array.New(3, api.Area-1)
	for i, a := range []*array.Array{nil, small} {
		j, e := New(a)
		k, f := Open(a)
		if j != nil || k != nil || e != api.ErrForm || f != api.ErrForm {
			t.Errorf("array %d: %d, %d", i, e, f)
		}
	}
	exact, _ := array.New(3, api.Area)
	if j, e := Open(exact); j != nil || e != api.ErrBad {
		t.Errorf("nothing there: %d", e)
	}
	exact.Off(0)
	if j, e := New(exact); j != nil || e != api.ErrOff {
		t.Errorf("off: %d", e)
	}
	exact.Crash(nil)
	made(t, exact)
	exact.Off(0)
	if j, e := Open(exact); j != nil || e == api.OK {
		t.Errorf("off: %d", e)
	}
	exact.Crash(nil)
	opened(t, exact)
	exact.Lose(2)
	if j, e := New(exact); j != nil || e != api.ErrFew {
		t.Errorf("one lost: %d", e)
	}
	exact.Replace(2)
	made(t, exact)
}

// TestHalf: more than half of all disks must have a journal.
func TestHalf(t *testing.T) {
	for n := 1; n <= 12; n++ {
		for gone := 0; gone <= n; gone++ {
			for way := range 3 {
				a := disks(t, n)
				j := made(t, a)
				l := some(rand.New(rand.NewSource(30)), 3)
				want(t, "add", j.Add(l...), api.OK)
				for d := range gone {
					if way == 0 || way == 1 && d%2 == 0 {
						a.Lose(d)
					} else {
						a.Replace(d)
					}
				}
				k, e := Open(a)
				if 2*(n-gone) > n {
					if k == nil || e != api.OK || !same(k.All(), l) {
						t.Fatalf("%d of %d gone, way %d: %d", gone, n, way, e)
					}
					continue
				}
				if k != nil || e != api.ErrBad {
					t.Fatalf("%d of %d gone, way %d: %d", gone, n, way, e)
				}
			}
		}
	}
}

// TestNewDisksHaveNone: what Add and Reset write on disks that were replaced is no journal of theirs, till Open.
func TestNewDisksHaveNone(t *testing.T) {
	for gone := range 6 {
		a := disks(t, 5)
		j := made(t, a)
		l := some(rand.New(rand.NewSource(36)), 3)
		for d := range gone {
			a.Replace(d)
		}
		want(t, "reset", j.Reset(l...), api.OK)
		want(t, "add", j.Add(l...), api.OK)
		k, e := Open(a)
		if gone > 2 {
			if k != nil || e != api.ErrBad {
				t.Errorf("%d of 5 new: %d", gone, e)
			}
			continue
		}
		if k == nil || e != api.OK || !same(k.All(), append(copied(l), l...)) {
			t.Fatalf("%d of 5 new: %d", gone, e)
		}
		// Now each has one: as many others may go.
		for d := range 2 {
			a.Replace(4 - d)
		}
		if k, e := Open(a); k == nil || e != api.OK || !same(k.All(), append(copied(l), l...)) {
			t.Errorf("%d of 5 new, then two others: %d", gone, e)
		}
	}
}

// TestOpenLaysItOnAll: behind Open each disk has it, also a new one.
func TestOpenLaysItOnAll(t *testing.T) {
	a := disks(t, 5)
	j := made(t, a)
	l := some(rand.New(rand.NewSource(31)), 9)
	want(t, "add", j.Add(l...), api.OK)
	for d := range 5 {
		a.Replace(d)
		if d == 2 {
			a.Flip((d+1)%5, 64*8*3+5)
		}
		if k := opened(t, a); !same(k.All(), l) {
			t.Fatalf("disk %d new: %d records", d, len(k.All()))
		}
		a.Crash(nil)
	}
	for d := range 2 {
		a.Lose(d)
	}
	if k := opened(t, a); !same(k.All(), l) {
		t.Errorf("two lost: %d records", len(k.All()))
	}
}

func TestErrorsOfAddAndReset(t *testing.T) {
	good := api.Record{Kind: api.RecFree, ID: 1}
	bad := api.Record{Kind: api.RecFree, ID: -1}
	many := slices.Repeat([]api.Record{good}, 2001)
	// More bytes than all of the journal's sectors have.
	huge := slices.Repeat([]api.Record{{Kind: api.RecBlob, Digest: strings.Repeat("d", 32), List: make([]int, api.MaxBlob)}}, 9)
	a := disks(t, 4)
	j := made(t, a)
	want(t, "add of none", j.Add(), api.ErrForm)
	want(t, "add of a bad one", j.Add(good, bad), api.ErrForm)
	want(t, "add of many", j.Add(many...), api.ErrForm)
	want(t, "reset to a bad one", j.Reset(bad), api.ErrForm)
	want(t, "reset to many", j.Reset(many...), api.ErrForm)
	want(t, "reset to none", j.Reset(), api.OK)
	want(t, "full", j.Add(huge...), api.ErrFull)
	want(t, "full", j.Reset(huge...), api.ErrFull)
	want(t, "add", j.Add(good), api.OK)
	a.Lose(0)
	want(t, "one of four lost", j.Add(good), api.OK)
	a.Lose(3)
	want(t, "form first", j.Add(bad), api.ErrForm)
	want(t, "full first", j.Add(huge...), api.ErrFull)
	want(t, "two of four lost", j.Add(good), api.ErrFew)
	want(t, "behind an error", j.Add(good), api.ErrState)
	want(t, "behind an error", j.Reset(good), api.ErrState)
	want(t, "state ahead of full", j.Add(huge...), api.ErrState)
	want(t, "form ahead of state", j.Add(), api.ErrForm)
	if !same(j.All(), []api.Record{good, good}) {
		t.Errorf("behind an error: %v", j.All())
	}
	a.Replace(0)
	a.Crash(nil)
	want(t, "behind an error for ever", j.Reset(), api.ErrState)

	a = disks(t, 3)
	j = made(t, a)
	a.Off(2)
	want(t, "off", j.Add(good), api.ErrOff)
	a.Crash(nil)
	want(t, "behind off", j.Add(good), api.ErrState)
	j = opened(t, a)
	a.Off(0)
	want(t, "off", j.Reset(good), api.ErrOff)
	want(t, "behind off", j.Reset(), api.ErrState)
	a.Crash(nil)
	if j = opened(t, a); len(j.All()) > 1 {
		t.Errorf("%v", j.All())
	}
	want(t, "opened anew", j.Add(good), api.OK)
}

// filler is records whose frames take just n bytes (n at least 200).
func filler(t *testing.T, n int) []api.Record {
	t.Helper()
	l, bytes := []api.Record{}, 0
	add := func(r api.Record) {
		f, e := record.Frame(r, 0)
		if e != api.OK {
			t.Fatalf("frame: %d", e)
		}
		l, bytes = append(l, r), bytes+len(f)
	}
	digest := strings.Repeat("d", 32)
	for n-bytes > 9000 {
		add(api.Record{Kind: api.RecBlob, Digest: digest, List: make([]int, 2000)})
	}
	for n-bytes > 200 {
		add(api.Record{Kind: api.RecFree, ID: len(l)})
	}
	for n-bytes >= 100 {
		add(api.Record{Kind: api.RecUntag, Name: strings.Repeat("n", 3)})
	}
	for rest := n - bytes; rest > 0; rest = n - bytes {
		name := min(rest, 57) - 17
		if left := rest - 17 - name; left > 0 && left < 18 {
			name -= 18 - left
		}
		add(api.Record{Kind: api.RecUntag, Name: strings.Repeat("n", name)})
	}
	if bytes != n {
		t.Fatalf("%d bytes, not %d", bytes, n)
	}
	return l
}

func TestRoom(t *testing.T) {
	a := disks(t, 3)
	j := made(t, a)
	r := rand.New(rand.NewSource(32))
	for round := range 12 {
		if round > 0 {
			want(t, "reset", j.Reset(), api.OK)
		}
		if j.Room() < 30000 {
			t.Fatalf("room: %d", j.Room())
		}
		for j.Room() > 2000 && r.Intn(12) > 0 {
			before := j.Room()
			l := filler(t, 200+r.Intn(min(3000, before-200)))
			want(t, "add", j.Add(l...), api.OK)
			if j.Room() >= before {
				t.Fatalf("room: %d behind %d", j.Room(), before)
			}
			if r.Intn(4) == 0 {
				j = opened(t, a)
			}
		}
		if j.Room() < 200 {
			continue
		}
		all := j.All()
		over := filler(t, j.Room()+1)
		want(t, "a byte more", j.Add(over...), api.ErrFull)
		if !same(j.All(), all) {
			t.Fatalf("full, but added")
		}
		just := filler(t, j.Room())
		want(t, "just as many", j.Add(just...), api.OK)
		want(t, "and no more", j.Add(filler(t, max(200, j.Room()+1))...), api.ErrFull)
		if k := opened(t, a); !same(k.All(), append(all, just...)) {
			t.Fatalf("full, and opened: %d records", len(k.All()))
		}
		if round%2 == 1 {
			j = opened(t, a)
		}
	}
	l := filler(t, 20000)
	want(t, "reset to many bytes", j.Reset(l...), api.OK)
	if k := opened(t, a); !same(k.All(), l) {
		t.Errorf("reset, and opened: %d records", len(k.All()))
	}
}

func TestMemory(t *testing.T) {
	j := made(t, disks(t, 1))
	l := []api.Record{{Kind: api.RecCommit, List: []int{1, 2}, Slots: []api.Slot{{Disk: 1, At: 2}}}}
	want(t, "add", j.Add(l...), api.OK)
	before := copied(l)
	for range 2 {
		l[0].List[0], l[0].Slots[0].At = 77, 7
		if !same(j.All(), before) {
			t.Fatalf("it has changed: %v", j.All())
		}
		l = j.All()
	}
	want(t, "reset", j.Reset(l...), api.OK)
	before = copied(l)
	l[0].List[0] = 78
	if !same(j.All(), before) {
		t.Errorf("it has changed: %v", j.All())
	}
}

// hurt loses, replaces and turns disks below f.
func hurt(r *rand.Rand, a *array.Array, f int) {
	for d := range f {
		switch r.Intn(5) {
		case 0:
			a.Lose(d)
		case 1:
			a.Replace(d)
		case 2:
			for range 1 + r.Intn(3) {
				a.Flip(d, 8*(64*r.Intn(30)+r.Intn(64)))
			}
		case 3:
			a.Flip(d, r.Intn(api.Area*512))
		}
	}
}

func picks(r *rand.Rand) []int {
	l := []int{}
	for range r.Intn(9) {
		l = append(l, r.Intn(2))
	}
	return l
}

// TestCrashes: power goes at each change of a deed, and of the openings behind it: all of the deed is there, or
// nothing; all, if it was told OK; and it stays so.
func TestCrashes(t *testing.T) {
	r := rand.New(rand.NewSource(33))
	for round := range 150 {
		n := 1 + r.Intn(7)
		f := r.Intn((n + 1) / 2)
		a := disks(t, n)
		j := made(t, a)
		is := []api.Record{}
		for step := range 8 {
			hurt(r, a, f)
			l := some(r, 1+r.Intn(20))
			next := append(copied(is), l...)
			off := r.Intn(60)
			if r.Intn(4) == 0 {
				off = -1
			}
			a.Off(off)
			deed := j.Add
			if r.Intn(3) == 0 {
				deed, next = j.Reset, l
			}
			e := deed(l...)
			told := j.All()
			if e == api.OK && !same(told, next) || e != api.OK && !same(told, is) {
				t.Fatalf("round %d, step %d: told %d records, %d", round, step, len(told), e)
			}
			for range r.Intn(3) {
				hurt(r, a, f)
				a.Crash(picks(r))
				a.Off(r.Intn(40))
				if k, g := Open(a); g == api.OK {
					told, e = k.All(), api.OK
					if !same(told, is) && !same(told, next) {
						t.Fatalf("round %d, step %d: opened half", round, step)
					}
					is, next = told, told
				} else if g != api.ErrOff || k != nil {
					t.Fatalf("round %d, step %d: opened: %d", round, step, g)
				}
			}
			a.Crash(picks(r))
			hurt(r, a, f)
			j = opened(t, a)
			got := j.All()
			if !same(got, next) && (e == api.OK || !same(got, is)) {
				t.Fatalf("round %d, step %d: %d records of %d, then %d, told %d", round, step, len(got), len(is), len(next), e)
			}
			hurt(r, a, f)
			if k := opened(t, a); !same(k.All(), got) {
				t.Fatalf("round %d, step %d: opened twice: %d records, not %d", round, step, len(k.All()), len(got))
			}
			j = opened(t, a)
			is = got
		}
	}
}

// TestTurnedBack: what turned bits of one disk hid does not come back when they are turned again.
func TestTurnedBack(t *testing.T) {
	r := rand.New(rand.NewSource(34))
	for round := range 60 {
		a := disks(t, 5)
		j := made(t, a)
		want(t, "add", j.Add(some(r, 3)...), api.OK)
		bits := []int{}
		for s := range api.Area {
			bits = append(bits, 512*s+r.Intn(512))
		}
		for _, bit := range bits {
			a.Flip(0, bit)
		}
		k := opened(t, a)
		if r.Intn(2) == 0 {
			want(t, "add", k.Add(some(r, 5)...), api.OK)
		}
		now := k.All()
		for _, bit := range bits {
			a.Flip(0, bit)
		}
		if again := opened(t, a); !same(again.All(), now) {
			t.Fatalf("round %d: %d records, not %d", round, len(again.All()), len(now))
		}
	}
}
