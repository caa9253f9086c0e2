package book_test

import (
	"math/rand"
	"slices"
	"strings"
	"testing"

	"silo/api"
	. "silo/book"
	"silo/record"
	"silo/slots"
)

func shape() api.Shape {
	return api.Shape{K: 2, M: 1, Size: 5}
}

// dig is a digest of one letter.
func dig(c string) string {
	return strings.Repeat(c, 32)
}

// at is three places on disks from d on, at one number.
func at(d, n int) []api.Slot {
	return []api.Slot{{Disk: d, At: n}, {Disk: d + 1, At: n}, {Disk: d + 2, At: n}}
}

// good is a book that may be: a blob of two stripes, one of nothing, a manifest of one, a stripe of nobody.
func good() api.Book {
	return api.Book{
		Stripes: []api.Stripe{
			{ID: 0, Len: 10, Place: at(0, 0)}, {ID: 3, Len: 4, Gen: 2, Place: at(0, 1)}, {ID: 4, Len: 7, Place: []api.Slot{{Disk: -1}, {Disk: 3, At: 63}, {Disk: -1}}}, {ID: 8, Len: 1, Place: at(9, 0)},
		},
		Things: []api.Entry{{Digest: dig("a"), Len: 14, List: []int{0, 3}}, {Digest: dig("b")}, {Digest: dig("c"), Len: 7, Manifest: true, List: []int{4}}},
		Tags:   []api.Tag{{Name: "A", Digest: dig("z")}, {Name: "a", Digest: dig("c")}},
		Next:   12,
	}
}

func sameStripe(x, y api.Stripe) bool {
	return x.ID == y.ID && x.Len == y.Len && x.Gen == y.Gen && slices.Equal(x.Place, y.Place)
}

func sameThing(x, y api.Entry) bool {
	return x.Digest == y.Digest && x.Len == y.Len && x.Manifest == y.Manifest && slices.Equal(x.List, y.List)
}

func same(a, b api.Book) bool {
	return a.Next == b.Next && slices.EqualFunc(a.Stripes, b.Stripes, sameStripe) && slices.EqualFunc(a.Things, b.Things, sameThing) && slices.Equal(a.Tags, b.Tags)
}

func sameRecord(x, y api.Record) bool {
	return x.Kind == y.Kind && x.ID == y.ID && x.Name == y.Name && x.Digest == y.Digest && slices.Equal(x.List, y.List) && slices.Equal(x.Slots, y.Slots)
}

// misfits are books that may not be.
func misfits() []api.Book {
	l := []api.Book{}
	for _, change := range []func(*api.Book){
		func(b *api.Book) { b.Next = 8 }, func(b *api.Book) { b.Next = -1 }, func(b *api.Book) { b.Next = api.MaxGen + 1 },
		func(b *api.Book) { b.Stripes[1].ID = 0 }, func(b *api.Book) { b.Stripes[0].ID = 5 }, func(b *api.Book) { b.Stripes[0].Len = 11 }, func(b *api.Book) { b.Stripes[3].Len = 0 },
		func(b *api.Book) { b.Stripes[3].Place = at(9, 0)[:2] }, func(b *api.Book) { b.Stripes[3].Place = at(1, 1) }, func(b *api.Book) { b.Stripes[3].Gen = -1 },
		func(b *api.Book) { b.Things[0].Digest = dig("b") }, func(b *api.Book) { b.Things[0].Digest = dig("d") }, func(b *api.Book) { b.Things[1].Digest = "bb" }, func(b *api.Book) { b.Things[0].Digest = "" },
		func(b *api.Book) { b.Things[0].Len = 15 }, func(b *api.Book) { b.Things[0].Len = 10 }, func(b *api.Book) { b.Things[0].Len = -1 }, func(b *api.Book) { b.Things[0].Len = 2001 },
		func(b *api.Book) { b.Things[0].List = []int{0} }, func(b *api.Book) { b.Things[0].List = []int{0, 5} }, func(b *api.Book) { b.Things[0].List = []int{0, 0} }, func(b *api.Book) { b.Things[0].List = []int{3, 0} },
		func(b *api.Book) { b.Things[0].List = []int{0, 3, 8} }, func(b *api.Book) { b.Things[1].List = []int{8} }, func(b *api.Book) { b.Things[1].Len, b.Things[1].List = 7, []int{4} }, func(b *api.Book) { b.Things[0].List = []int{-1, 3} },
		func(b *api.Book) { b.Tags[0].Name = "a" }, func(b *api.Book) { b.Tags[0].Name = "b" }, func(b *api.Book) { b.Tags[0].Name = "" }, func(b *api.Book) { b.Tags[1].Name = strings.Repeat("x", 41) }, func(b *api.Book) { b.Tags[1].Digest = "c" },
		func(b *api.Book) { b.Things = nil; b.Stripes[1].ID = 0 }, func(b *api.Book) { b.Things = nil; b.Stripes[1].ID = 5 }, func(b *api.Book) { b.Things = nil; b.Stripes[0].ID = -1 },
		func(b *api.Book) { b.Things = many(61) }, func(b *api.Book) { b.Tags = tagged(41) },
	} {
		b := good()
		change(&b)
		l = append(l, b)
	}
	return l
}

// many is so many things of nothing.
func many(n int) []api.Entry {
	l := []api.Entry{}
	for i := range n {
		l = append(l, api.Entry{Digest: strings.Repeat(string([]byte{byte(40 + i)}), 32)})
	}
	return l
}

// tagged is so many tags.
func tagged(n int) []api.Tag {
	l := []api.Tag{}
	for i := range n {
		l = append(l, api.Tag{Name: string([]byte{byte(40 + i)}), Digest: dig("x")})
	}
	return l
}

func TestMisfits(t *testing.T) {
	s := shape()
	free := api.Record{Kind: api.RecFree, ID: 8}
	try := func(name string, s api.Shape, b api.Book) {
		c, e1 := Apply(s, b, free)
		l, e2 := Lines(s, b)
		x, e3 := Slots(s, b, []bool{true}, 1)
		f, e4 := Free(s, b)
		for i, e := range []api.Errno{Check(s, b), e1, e2, e3, e4} {
			if e != api.ErrForm {
				t.Errorf("%s, call %d: %d", name, i, e)
			}
		}
		if !same(c, api.Book{}) || len(l) != 0 || len(x.Live) != 0 || len(x.Free) != 0 || len(f) != 0 {
			t.Errorf("%s: an answer beside an error", name)
		}
	}
	for i, b := range misfits() {
		try("misfit "+string(rune('0'+i)), s, b)
	}
	try("shape", api.Shape{K: 2, M: 1}, good())
	try("shape of nothing", api.Shape{}, api.Book{})
	if Check(s, good()) != api.OK || Check(s, api.Book{}) != api.OK || Check(s, api.Book{Next: api.MaxGen, Things: many(60), Tags: tagged(40)}) != api.OK || Check(s, api.Book{Tags: []api.Tag{{Name: strings.Repeat("x", 40), Digest: dig("a")}}}) != api.OK {
		t.Errorf("good ones may be: %d", Check(s, good()))
	}
	for _, r := range []api.Record{{}, {Kind: api.RecFree, ID: -1}, {Kind: 9}} {
		if c, e := Apply(s, good(), r); !same(c, api.Book{}) || e != api.ErrForm {
			t.Errorf("%v: %d", r, e)
		}
	}
}

func TestApply(t *testing.T) {
	rows := []struct {
		r      api.Record
		change func(*api.Book)
		e      api.Errno
	}{
		{api.Record{Kind: api.RecPrepare, ID: 11, Slots: at(0, 5)}, func(b *api.Book) {}, api.OK},
		{api.Record{Kind: api.RecPrepare, ID: 12, Slots: at(0, 5)}, func(b *api.Book) { b.Next = 13 }, api.OK},
		{api.Record{Kind: api.RecPrepare, ID: api.MaxGen, Slots: at(0, 5)}, func(b *api.Book) { b.Next = api.MaxGen + 1 }, api.OK},
		{api.Record{Kind: api.RecCommit, ID: 20, List: []int{9, 1}, Slots: at(3, 3)}, func(b *api.Book) {
			b.Stripes = append(b.Stripes, api.Stripe{ID: 20, Len: 9, Gen: 1, Place: at(3, 3)})
			b.Next = 21
		}, api.OK},
		{api.Record{Kind: api.RecCommit, ID: 5, List: []int{99, 1}, Slots: at(0, 0)[:1]}, func(b *api.Book) {
			b.Stripes = slices.Insert(b.Stripes, 3, api.Stripe{ID: 5, Len: 99, Gen: 1, Place: at(0, 0)[:1]})
		}, api.OK},
		{api.Record{Kind: api.RecCommit, ID: 3, List: []int{4, 7}, Slots: at(4, 4)}, func(b *api.Book) { b.Stripes[1].Gen, b.Stripes[1].Place = 7, at(4, 4) }, api.OK},
		{api.Record{Kind: api.RecFree, ID: 0}, func(b *api.Book) { b.Stripes = b.Stripes[1:] }, api.OK},
		{api.Record{Kind: api.RecFree, ID: 1}, nil, api.ErrNone},
		{api.Record{Kind: api.RecBlob, ID: 3, Digest: dig("b"), List: []int{8, 9}}, func(b *api.Book) { b.Things[1].Len, b.Things[1].List = 3, []int{8, 9} }, api.OK},
		{api.Record{Kind: api.RecManifest, ID: 1, Digest: dig("A"), List: []int{8}}, func(b *api.Book) {
			b.Things = slices.Insert(b.Things, 0, api.Entry{Digest: dig("A"), Len: 1, Manifest: true, List: []int{8}})
		}, api.OK},
		{api.Record{Kind: api.RecBlob, ID: 7, Digest: dig("c"), List: []int{4}}, func(b *api.Book) { b.Things[2].Manifest = false }, api.OK},
		{api.Record{Kind: api.RecDrop, Digest: dig("a")}, func(b *api.Book) { b.Things = b.Things[1:] }, api.OK},
		{api.Record{Kind: api.RecDrop, Digest: dig("d")}, nil, api.ErrNone},
		{api.Record{Kind: api.RecTag, Name: "A", Digest: dig("q")}, func(b *api.Book) { b.Tags[0].Digest = dig("q") }, api.OK},
		{api.Record{Kind: api.RecTag, Name: "Z", Digest: dig("q")}, func(b *api.Book) { b.Tags = slices.Insert(b.Tags, 1, api.Tag{Name: "Z", Digest: dig("q")}) }, api.OK},
		{api.Record{Kind: api.RecUntag, Name: "a"}, func(b *api.Book) { b.Tags = b.Tags[:1] }, api.OK},
		{api.Record{Kind: api.RecUntag, Name: "b"}, nil, api.ErrNone},
	}
	for i, row := range rows {
		b := good()
		want := api.Book{}
		if row.change != nil {
			want = good()
			row.change(&want)
		}
		c, e := Apply(shape(), b, row.r)
		if !same(c, want) || e != row.e {
			t.Errorf("row %d: %v, %d", i, c, e)
		}
		if !same(b, good()) {
			t.Errorf("row %d: what was handed in has changed", i)
		}
		for j := range c.Stripes {
			c.Stripes[j].Place[0].At = 60
		}
		for j := range c.Things {
			if len(c.Things[j].List) > 0 {
				c.Things[j].List[0] = 60
			}
		}
		if !same(b, good()) || len(row.r.Slots) > 0 && row.r.Slots[0].At == 60 || len(row.r.List) > 0 && row.r.List[0] == 60 {
			t.Errorf("row %d: shared memory", i)
		}
	}
}

func TestOf(t *testing.T) {
	s := shape()
	commit := api.Record{Kind: api.RecCommit, ID: 1, List: []int{3, 0}, Slots: at(0, 0)}
	blob := api.Record{Kind: api.RecBlob, ID: 3, Digest: dig("a"), List: []int{1}}
	free, drop := api.Record{Kind: api.RecFree, ID: 1}, api.Record{Kind: api.RecDrop, Digest: dig("a")}
	rows := []struct {
		l []api.Record
		b api.Book
		e api.Errno
	}{
		{nil, api.Book{}, api.OK},
		{[]api.Record{blob, commit}, api.Book{Stripes: []api.Stripe{{ID: 1, Len: 3, Place: at(0, 0)}}, Things: []api.Entry{{Digest: dig("a"), Len: 3, List: []int{1}}}, Next: 2}, api.OK},
		{[]api.Record{commit, free}, api.Book{Next: 2}, api.OK},
		{[]api.Record{blob}, api.Book{}, api.ErrBad}, {[]api.Record{commit, blob, free}, api.Book{}, api.ErrBad}, {[]api.Record{commit, blob, free, drop}, api.Book{Next: 2}, api.OK},
		{[]api.Record{free}, api.Book{}, api.ErrNone}, {[]api.Record{drop}, api.Book{}, api.ErrNone}, {[]api.Record{blob, {Kind: api.RecUntag, Name: "x"}}, api.Book{}, api.ErrNone},
		{[]api.Record{{Kind: api.RecPrepare, ID: api.MaxGen - 1, Slots: at(0, 0)}}, api.Book{Next: api.MaxGen}, api.OK},
		{[]api.Record{{Kind: api.RecPrepare, ID: api.MaxGen, Slots: at(0, 0)}}, api.Book{}, api.ErrBad},
		{[]api.Record{free, {}}, api.Book{}, api.ErrForm},
		{slices.Repeat([]api.Record{commit}, 5000), api.Book{Stripes: []api.Stripe{{ID: 1, Len: 3, Place: at(0, 0)}}, Next: 2}, api.OK},
		{slices.Repeat([]api.Record{commit}, 5001), api.Book{}, api.ErrLimit},
		{append(slices.Repeat([]api.Record{commit}, 5001), api.Record{}), api.Book{}, api.ErrForm},
	}
	for i, row := range rows {
		if b, e := Of(s, row.l); !same(b, row.b) || e != row.e {
			t.Errorf("row %d: %v, %d", i, b, e)
		}
	}
	if b, e := Of(api.Shape{}, nil); !same(b, api.Book{}) || e != api.ErrForm {
		t.Errorf("a shape that may not be: %d", e)
	}
}

func TestLines(t *testing.T) {
	s := shape()
	l, e := Lines(s, good())
	kinds := []int{}
	for _, r := range l {
		kinds = append(kinds, r.Kind)
		if record.Check(r) != api.OK {
			t.Errorf("%v may not be", r)
		}
	}
	if want := []int{1, 2, 2, 2, 2, 4, 4, 5, 7, 7}; !slices.Equal(kinds, want) || e != api.OK {
		t.Errorf("kinds: %v, %d", kinds, e)
	}
	if !sameRecord(l[0], api.Record{Kind: api.RecPrepare, ID: 11, Slots: []api.Slot{{Disk: 0, At: 0}}}) {
		t.Errorf("ahead: %v", l[0])
	}
	if !sameRecord(l[2], api.Record{Kind: api.RecCommit, ID: 3, List: []int{4, 2}, Slots: at(0, 1)}) {
		t.Errorf("a stripe: %v", l[2])
	}
	exact := good()
	exact.Next = 9
	if l, _ := Lines(s, exact); l[0].Kind != api.RecCommit {
		t.Errorf("nothing is ahead: %v", l[0])
	}
	one := api.Book{Stripes: []api.Stripe{{ID: 4, Len: 1, Place: at(0, 0)}}, Next: 5}
	for next, want := range map[int][]int{5: {2}, 6: {1, 2}} {
		one.Next = next
		l, e := Lines(s, one)
		kinds := []int{}
		for _, r := range l {
			kinds = append(kinds, r.Kind)
		}
		if !slices.Equal(kinds, want) || e != api.OK {
			t.Errorf("one stripe, next %d: %v, %d", next, kinds, e)
		}
	}
	for n, want := range map[int]int{0: 0, 1: 1, api.MaxGen: 1} {
		if l, e := Lines(s, api.Book{Next: n}); len(l) != want || e != api.OK || want == 1 && l[0].ID != n-1 {
			t.Errorf("no stripes, next %d: %v", n, l)
		}
	}
}

// some is a book that may be.
func some(r *rand.Rand, s api.Shape) api.Book {
	b := api.Book{}
	free, _ := slots.New(12, 9)
	for i := range r.Intn(20) {
		n := r.Intn(3 * s.K * s.Size)
		x := api.Entry{Digest: dig(string([]byte{byte(i + 50)})), Len: n, Manifest: r.Intn(2) == 0}
		fits := true
		for rest := n; rest > 0; rest -= min(rest, s.K*s.Size) {
			b.Next += r.Intn(3)
			l, y, e := slots.Take(free, s.K+s.M, nil)
			if e != api.OK {
				fits = false
				break
			}
			free = y
			b.Stripes = append(b.Stripes, api.Stripe{ID: b.Next, Len: min(rest, s.K*s.Size), Gen: r.Intn(5), Place: l})
			x.List = append(x.List, b.Next)
			b.Next++
		}
		if fits && r.Intn(5) > 0 {
			b.Things = append(b.Things, x)
		}
	}
	b.Tags = tagged(r.Intn(9))
	b.Next += r.Intn(3)
	return b
}

func TestOfLines(t *testing.T) {
	r := rand.New(rand.NewSource(37))
	for range 200 {
		s := api.Shape{K: 1 + r.Intn(6), M: r.Intn(6), Size: 1 + r.Intn(20)}
		b := some(r, s)
		l, e := Lines(s, b)
		c, f := Of(s, l)
		if e != api.OK || f != api.OK || !same(b, c) {
			t.Fatalf("%v: %d, %d", b, e, f)
		}
		live := make([]bool, 12)
		x, e := Slots(s, b, live, 9)
		n := 0
		for d := range x.Free {
			n += len(x.Free[d])
		}
		if e != api.OK || n != 12*9-len(b.Stripes)*(s.K+s.M) {
			t.Fatalf("slots: %d free, %d", n, e)
		}
	}
}

func TestSlots(t *testing.T) {
	s := shape()
	live := []bool{true, false, true, true}
	x, e := Slots(s, good(), live, 3)
	want := [][]int{{2}, {2}, {2}, {0, 1, 2}}
	if e != api.OK || !slices.Equal(x.Live, live) || !slices.EqualFunc(x.Free, want, func(a, b []int) bool { return slices.Equal(a, b) }) {
		t.Errorf("%v, %d", x, e)
	}
	live[0] = false
	if !x.Live[0] {
		t.Errorf("shared memory")
	}
	x, e = Slots(s, good(), make([]bool, 12), 64)
	if e != api.OK || len(x.Free[3]) != 63 || len(x.Free[9]) != 63 || len(x.Free[5]) != 64 || len(x.Free[0]) != 62 {
		t.Errorf("of all: %d", e)
	}
	if x, e := Slots(s, good(), []bool{true}, 0); e != api.OK || len(x.Free) != 1 || len(x.Free[0]) != 0 {
		t.Errorf("of none: %v, %d", x, e)
	}
	for i, row := range []struct {
		live []bool
		n    int
	}{{nil, 1}, {make([]bool, 13), 1}, {live, -1}, {live, 65}} {
		if x, e := Slots(s, good(), row.live, row.n); len(x.Live) != 0 || len(x.Free) != 0 || e != api.ErrForm {
			t.Errorf("row %d: %d", i, e)
		}
	}
}

func TestFree(t *testing.T) {
	if l, e := Free(shape(), good()); !slices.Equal(l, []int{8}) || e != api.OK {
		t.Errorf("%v, %d", l, e)
	}
	b := good()
	b.Things = b.Things[1:]
	if l, e := Free(shape(), b); !slices.Equal(l, []int{0, 3, 8}) || e != api.OK {
		t.Errorf("%v, %d", l, e)
	}
	if l, e := Free(shape(), api.Book{}); len(l) != 0 || e != api.OK {
		t.Errorf("%v, %d", l, e)
	}
}
