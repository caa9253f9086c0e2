package fit_test

import (
	"math/rand"
	"slices"
	"testing"

	"silo/api"
	"silo/cut"
	. "silo/fit"
	"silo/slots"
)

func same(a, b api.Slots) bool {
	return slices.Equal(a.Live, b.Live) && slices.EqualFunc(a.Free, b.Free, func(x, y []int) bool { return slices.Equal(x, y) })
}

// some is slots picked by r.
func some(r *rand.Rand) api.Slots {
	x := api.Slots{}
	for range 1 + r.Intn(12) {
		x.Live = append(x.Live, r.Intn(5) > 0)
		free := []int{}
		p := r.Intn(5)
		for n := range 9 {
			if r.Intn(4) < p {
				free = append(free, n)
			}
		}
		x.Free = append(x.Free, free)
	}
	return x
}

// TestTextIsTakes: it tells what slots.Take tells, stripe by stripe, and errs as it does; Most counts them.
func TestTextIsTakes(t *testing.T) {
	r := rand.New(rand.NewSource(38))
	errs := map[api.Errno]int{}
	for range 600 {
		s := api.Shape{K: 1 + r.Intn(8), M: r.Intn(7), Size: 1 + r.Intn(30)}
		x := some(r)
		before, _, _ := Text(s, x, 0)
		n := r.Intn(400)
		if r.Intn(5) == 0 {
			n = 0
		}
		l, y, e := Text(s, x, n)
		many, _ := cut.Stripes(s, n)
		want, f := [][]api.Slot{}, api.OK
		z := x
		for range many {
			var took []api.Slot
			took, z, f = slots.Take(z, s.K+s.M, nil)
			if f != api.OK {
				want, z = nil, api.Slots{}
				break
			}
			want = append(want, took)
		}
		if e != f || !same(y, z) || !slices.EqualFunc(l, want, func(a, b []api.Slot) bool { return slices.Equal(a, b) }) {
			t.Fatalf("%v, %d bytes: %v, %d; not %v, %d", s, n, l, e, want, f)
		}
		errs[e]++
		most, g := Most(s, x)
		if g != api.OK || (e == api.OK) != (many <= most) || len(before) != 0 {
			t.Fatalf("%v, %d stripes, most %d: %d, %d", s, many, most, e, g)
		}
	}
	for _, e := range []api.Errno{api.OK, api.ErrForm, api.ErrFew, api.ErrFull} {
		if errs[e] == 0 {
			t.Errorf("never %d", e)
		}
	}
}

func TestForm(t *testing.T) {
	s := api.Shape{K: 1, M: 1, Size: 1}
	x, _ := slots.New(3, 3)
	bad := api.Slots{Live: []bool{true}}
	for i, row := range []struct {
		s api.Shape
		x api.Slots
		n int
	}{{api.Shape{}, x, 0}, {api.Shape{K: 1, M: 7, Size: 1}, x, 0}, {s, bad, 0}, {s, api.Slots{}, 1}, {s, x, -1}, {s, x, api.MaxBlob + 1}} {
		l, y, e := Text(row.s, row.x, row.n)
		if len(l) != 0 || !same(y, api.Slots{}) || e != api.ErrForm {
			t.Errorf("row %d: %d", i, e)
		}
		if n, e := Most(row.s, row.x); i < 4 && (n != 0 || e != api.ErrForm) {
			t.Errorf("row %d: most %d, %d", i, n, e)
		}
	}
}

func TestEdges(t *testing.T) {
	x, _ := slots.New(12, 64)
	// Nothing is taken; what is told is a copy.
	l, y, e := Text(api.Shape{K: 1, M: 0, Size: 1}, x, 0)
	if len(l) != 0 || !same(y, x) || e != api.OK {
		t.Errorf("of nothing: %d", e)
	}
	y.Free[0][0], y.Live[0] = 70, false
	if x.Free[0][0] != 0 || !x.Live[0] {
		t.Errorf("shared memory")
	}
	// More pieces than there may be disks: of no bytes it fits, of one it does not.
	wide := api.Shape{K: 8, M: 6, Size: 1}
	if l, y, e := Text(wide, x, 0); len(l) != 0 || !same(y, x) || e != api.OK {
		t.Errorf("wide, of nothing: %d", e)
	}
	if l, y, e := Text(wide, x, 1); len(l) != 0 || !same(y, api.Slots{}) || e != api.ErrForm {
		t.Errorf("wide: %d", e)
	}
	if n, e := Most(wide, x); n != 0 || e != api.OK {
		t.Errorf("wide: most %d, %d", n, e)
	}
	if n, e := Most(api.Shape{K: 1, M: 0, Size: 1}, x); n != 12*64 || e != api.OK {
		t.Errorf("narrow: most %d, %d", n, e)
	}
	if n, e := Most(api.Shape{K: 8, M: 4, Size: 1}, x); n != 64 || e != api.OK {
		t.Errorf("all disks: most %d, %d", n, e)
	}
	if l, _, e := Text(api.Shape{K: 1, M: 0, Size: 1}, x, api.MaxBlob); len(l) != 0 || e != api.ErrFull {
		t.Errorf("too long: %d", e)
	}
}
