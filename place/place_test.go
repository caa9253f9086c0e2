package place_test

import (
	"math/rand"
	"slices"
	"testing"

	"silo/api"
	. "silo/place"
	"silo/slots"
)

func sameNeed(a, b api.Need) bool {
	return a.Stripe == b.Stripe && slices.Equal(a.Index, b.Index) && slices.Equal(a.To, b.To)
}

func sameStripe(a, b api.Stripe) bool {
	return a.ID == b.ID && a.Len == b.Len && a.Gen == b.Gen && slices.Equal(a.Place, b.Place)
}

func sameSlots(a, b api.Slots) bool {
	return slices.Equal(a.Live, b.Live) && slices.EqualFunc(a.Free, b.Free, func(x, y []int) bool { return slices.Equal(x, y) })
}

// at is places on these disks, each one's slot its number in the list.
func at(disks ...int) []api.Slot {
	l := []api.Slot{}
	for i, d := range disks {
		if d < 0 {
			i = 0
		}
		l = append(l, api.Slot{Disk: d, At: i})
	}
	return l
}

func shape() api.Shape {
	return api.Shape{K: 2, M: 1, Size: 5}
}

// stripes that may not be of that shape.
func misfits() []api.Stripe {
	good := api.Stripe{ID: 1, Len: 1, Gen: 0, Place: at(0, 1, 2)}
	l := []api.Stripe{}
	for _, change := range []func(*api.Stripe){
		func(x *api.Stripe) { x.ID = -1 }, func(x *api.Stripe) { x.ID = api.MaxGen + 1 }, func(x *api.Stripe) { x.Gen = -1 }, func(x *api.Stripe) { x.Gen = api.MaxGen + 1 },
		func(x *api.Stripe) { x.Len = 0 }, func(x *api.Stripe) { x.Len = 11 }, func(x *api.Stripe) { x.Place = at(0, 1) }, func(x *api.Stripe) { x.Place = at(0, 1, 2, 3) },
		func(x *api.Stripe) { x.Place = at(0, 1, 0) }, func(x *api.Stripe) { x.Place[1].Disk = -2 }, func(x *api.Stripe) { x.Place[1].Disk = 12 },
		func(x *api.Stripe) { x.Place[1].At = 64 }, func(x *api.Stripe) { x.Place[1].At = -1 }, func(x *api.Stripe) { x.Place[1] = api.Slot{Disk: -1, At: 1} },
	} {
		x := good
		x.Place = slices.Clone(good.Place)
		change(&x)
		l = append(l, x)
	}
	return l
}

func TestCheck(t *testing.T) {
	s := shape()
	free, _ := slots.New(4, 2)
	yes := []bool{true, true, true}
	for i, x := range misfits() {
		n, w, e1 := Needs(s, x, free, yes)
		y, f, e2 := Moved(s, x, api.Need{Stripe: x.ID})
		h, e3 := Shift(s, []api.Stripe{x}, free)
		if Check(s, x) != api.ErrForm || e1 != api.ErrForm || e2 != api.ErrForm || e3 != api.ErrForm {
			t.Errorf("misfit %d: %d, %d, %d, %d", i, Check(s, x), e1, e2, e3)
		}
		if !sameNeed(n, api.Need{}) || !sameSlots(w, api.Slots{}) || !sameStripe(y, api.Stripe{}) || len(f) != 0 || !sameNeed(h, api.Need{}) {
			t.Errorf("misfit %d: an answer beside an error", i)
		}
	}
	for _, x := range []api.Stripe{{ID: 0, Len: 1, Place: at(-1, -1, -1)}, {ID: api.MaxGen, Len: 10, Gen: api.MaxGen, Place: []api.Slot{{Disk: 11, At: 63}, {Disk: -1}, {Disk: 0, At: 0}}}} {
		if e := Check(s, x); e != api.OK {
			t.Errorf("%v: %d", x, e)
		}
	}
	good := api.Stripe{ID: 1, Len: 1, Place: at(0, 1, 2)}
	if Check(api.Shape{K: 9, M: 0, Size: 1}, good) != api.ErrForm || Check(api.Shape{}, api.Stripe{}) != api.ErrForm {
		t.Errorf("a shape that may not be")
	}
	for _, bad := range []api.Slots{{}, {Live: []bool{true}, Free: [][]int{{1, 0}}}} {
		_, _, e1 := Needs(s, good, bad, yes)
		n, e2 := Spread(bad)
		_, e3 := Shift(s, []api.Stripe{good}, bad)
		if e1 != api.ErrForm || e2 != api.ErrForm || e3 != api.ErrForm || n != 0 {
			t.Errorf("slots that may not be: %d, %d, %d", e1, e2, e3)
		}
	}
	if _, _, e := Needs(s, good, free, yes[1:]); e != api.ErrForm {
		t.Errorf("too few truths: %d", e)
	}
}

func TestNeeds(t *testing.T) {
	s := api.Shape{K: 2, M: 2, Size: 5}
	x := api.Stripe{ID: 7, Len: 3, Gen: 1, Place: []api.Slot{{Disk: 0, At: 1}, {Disk: 1, At: 1}, {Disk: -1, At: 0}, {Disk: 3, At: 1}}}
	y := api.Slots{Live: []bool{true, true, true, false, true}, Free: [][]int{{0, 5}, {2}, {9}, {0}, {3, 4, 6}}}
	rows := []struct {
		good  []bool
		index []int
		to    []api.Slot
		e     api.Errno
	}{
		{[]bool{true, true, true, true}, nil, nil, api.OK},
		{[]bool{true, true, false, false}, []int{2, 3}, []api.Slot{{Disk: 4, At: 3}, {Disk: 2, At: 9}}, api.OK},
		{[]bool{false, true, false, true}, []int{0, 2}, []api.Slot{{Disk: 4, At: 3}, {Disk: 0, At: 0}}, api.OK},
		{[]bool{true, true, true, false}, []int{3}, []api.Slot{{Disk: 4, At: 3}}, api.OK},
		{[]bool{true, false, false, false}, nil, nil, api.ErrLost}, {make([]bool, 4), nil, nil, api.ErrLost},
	}
	for i, row := range rows {
		n, w, e := Needs(s, x, y, row.good)
		if e != row.e {
			t.Errorf("row %d: %d", i, e)
		}
		if e != api.OK {
			if !sameNeed(n, api.Need{}) || !sameSlots(w, api.Slots{}) {
				t.Errorf("row %d: an answer beside an error", i)
			}
			continue
		}
		if !sameNeed(n, api.Need{Stripe: 7, Index: row.index, To: row.to}) {
			t.Errorf("row %d: %v", i, n)
		}
		back := w
		for _, to := range row.to {
			back, _ = slots.Give(back, to)
		}
		if !sameSlots(back, y) {
			t.Errorf("row %d: slots behind: %v", i, w)
		}
		w.Free[0][0], w.Live[0] = 60, false
		if y.Free[0][0] != 0 || !y.Live[0] {
			t.Fatalf("row %d: shared memory", i)
		}
	}
	few := api.Slots{Live: []bool{true, true, false}, Free: [][]int{{0}, {1}, {2}}}
	if n, w, e := Needs(s, x, few, []bool{true, true, false, true}); e != api.ErrFew || !sameNeed(n, api.Need{}) || !sameSlots(w, api.Slots{}) {
		t.Errorf("few: %d", e)
	}
	full := api.Slots{Live: []bool{true, true, true, true}, Free: [][]int{{0}, {1}, {}, {7}}}
	if _, _, e := Needs(s, x, full, []bool{true, true, false, true}); e != api.ErrFull {
		t.Errorf("full: %d", e)
	}
}

func TestMoved(t *testing.T) {
	s := api.Shape{K: 2, M: 2, Size: 5}
	x := api.Stripe{ID: 7, Len: 3, Gen: 5, Place: []api.Slot{{Disk: 0, At: 1}, {Disk: 1, At: 2}, {Disk: -1, At: 0}, {Disk: 3, At: 4}}}
	y, free, e := Moved(s, x, api.Need{Stripe: 7, Index: []int{0, 2, 3}, To: []api.Slot{{Disk: 3, At: 9}, {Disk: 5, At: 0}, {Disk: 0, At: 63}}})
	want := api.Stripe{ID: 7, Len: 3, Gen: 5, Place: []api.Slot{{Disk: 3, At: 9}, {Disk: 1, At: 2}, {Disk: 5, At: 0}, {Disk: 0, At: 63}}}
	if !sameStripe(y, want) || !slices.Equal(free, []api.Slot{{Disk: 0, At: 1}, {Disk: 3, At: 4}}) || e != api.OK {
		t.Errorf("%v, %v, %d", y, free, e)
	}
	y, free, e = Moved(s, x, api.Need{Stripe: 7})
	if !sameStripe(y, x) || len(free) != 0 || e != api.OK {
		t.Errorf("of nothing: %v, %v, %d", y, free, e)
	}
	y.Place[0].At = 50
	if x.Place[0].At != 1 {
		t.Errorf("shared memory")
	}
	to := func(disks ...int) []api.Slot { return at(disks...) }
	for i, n := range []api.Need{
		{Stripe: 8}, {Stripe: 7, Index: []int{0}}, {Stripe: 7, To: to(5)}, {Stripe: 7, Index: []int{1, 0}, To: to(5, 6)}, {Stripe: 7, Index: []int{1, 1}, To: to(5, 6)},
		{Stripe: 7, Index: []int{4}, To: to(5)}, {Stripe: 7, Index: []int{-1}, To: to(5)}, {Stripe: 7, Index: []int{0}, To: to(1)}, {Stripe: 7, Index: []int{0, 2}, To: to(5, 5)},
		{Stripe: 7, Index: []int{0}, To: to(12)}, {Stripe: 7, Index: []int{0}, To: []api.Slot{{Disk: 5, At: 64}}}, {Stripe: 7, Index: []int{0}, To: []api.Slot{{Disk: 5, At: -1}}},
	} {
		if y, free, e := Moved(s, x, n); e != api.ErrForm || !sameStripe(y, api.Stripe{}) || len(free) != 0 {
			t.Errorf("row %d: %d", i, e)
		}
	}
}

// TestNeedsThenMoved: what lacks is moved to disks unlike all others.
func TestNeedsThenMoved(t *testing.T) {
	r := rand.New(rand.NewSource(36))
	moved := 0
	for range 500 {
		s := api.Shape{K: 1 + r.Intn(4), M: r.Intn(4), Size: 5}
		free, _ := slots.New(1+r.Intn(12), 5)
		free, _ = slots.Live(free, r.Intn(len(free.Live)), r.Intn(2) == 0, 5)
		l, free, e := slots.Take(free, s.K+s.M, nil)
		if e != api.OK {
			continue
		}
		x := api.Stripe{ID: 3, Len: 1, Place: l}
		good := []bool{}
		for range l {
			good = append(good, r.Intn(3) > 0)
		}
		n, _, e := Needs(s, x, free, good)
		if e != api.OK {
			continue
		}
		y, old, e := Moved(s, x, n)
		if e != api.OK || Check(s, y) != api.OK || len(old) != len(n.Index) {
			t.Fatalf("%v: %d", n, e)
		}
		moved++
	}
	if moved < 100 {
		t.Errorf("moved: %d", moved)
	}
}

func TestSpread(t *testing.T) {
	rows := []struct {
		x    api.Slots
		want int
	}{
		{api.Slots{Live: []bool{true}, Free: [][]int{{1, 2}}}, 0}, {api.Slots{Live: []bool{false, false}, Free: [][]int{{1, 2}, {}}}, 0},
		{api.Slots{Live: []bool{true, false, true, true}, Free: [][]int{{1, 2}, {}, {1, 2, 3, 4}, {0}}}, 3},
	}
	for i, row := range rows {
		if n, e := Spread(row.x); n != row.want || e != api.OK {
			t.Errorf("row %d: %d, %d", i, n, e)
		}
	}
}

func TestShift(t *testing.T) {
	s := shape()
	l := []api.Stripe{
		{ID: 2, Len: 1, Place: at(1, 3, 2)}, {ID: 4, Len: 1, Place: at(0, 2, 3)}, {ID: 5, Len: 1, Place: at(3, 1, 0)}, {ID: 9, Len: 1, Place: at(1, 0, -1)},
	}
	x := api.Slots{Live: []bool{true, true, true, true, false, false}, Free: [][]int{{7}, {5}, {3, 4, 8}, {1, 2, 3}, {}, {0, 1, 2, 3, 4}}}
	// Disk 0 is full, disk 2 empty: stripes 2 (not on 0) and 4 (on both) are none.
	n, e := Shift(s, l, x)
	if want := (api.Need{Stripe: 5, Index: []int{2}, To: []api.Slot{{Disk: 2, At: 3}}}); !sameNeed(n, want) || e != api.OK {
		t.Errorf("%v, %d", n, e)
	}
	// The first piece is as good as any: on full it goes, on empty the stripe is none.
	l[2].Place = at(0, 3, 1)
	n, e = Shift(s, l, x)
	if want := (api.Need{Stripe: 5, Index: []int{0}, To: []api.Slot{{Disk: 2, At: 3}}}); !sameNeed(n, want) || e != api.OK {
		t.Errorf("the first piece: %v, %d", n, e)
	}
	l[2].Place = at(2, 3, 0)
	n, e = Shift(s, l, x)
	if want := (api.Need{Stripe: 9, Index: []int{1}, To: []api.Slot{{Disk: 2, At: 3}}}); !sameNeed(n, want) || e != api.OK {
		t.Errorf("the first piece, on empty: %v, %d", n, e)
	}
	none := []struct {
		l []api.Stripe
		x api.Slots
	}{
		{l[:2], x}, {nil, x}, {l, api.Slots{Live: []bool{true, true}, Free: [][]int{{1}, {1, 2}}}}, {l, api.Slots{Live: []bool{true}, Free: [][]int{{1}}}},
		{l, api.Slots{Live: []bool{false, false}, Free: [][]int{{1}, {1, 2, 3, 4}}}},
	}
	for i, row := range none {
		if n, e := Shift(s, row.l, row.x); !sameNeed(n, api.Need{}) || e != api.ErrNone {
			t.Errorf("row %d: %v, %d", i, n, e)
		}
	}
	for i, bad := range [][]api.Stripe{{l[1], l[0]}, {l[0], l[0]}, {{}}} {
		if n, e := Shift(s, bad, x); !sameNeed(n, api.Need{}) || e != api.ErrForm {
			t.Errorf("bad row %d: %v, %d", i, n, e)
		}
	}
	if _, e := Shift(api.Shape{}, nil, x); e != api.ErrForm {
		t.Errorf("a shape that may not be: %d", e)
	}
}
