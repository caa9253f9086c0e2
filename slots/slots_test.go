package slots_test

import (
	"math/rand"
	"slices"
	"testing"

	"silo/api"
	. "silo/slots"
)

func same(a, b api.Slots) bool {
	return slices.Equal(a.Live, b.Live) && slices.EqualFunc(a.Free, b.Free, func(x, y []int) bool { return slices.Equal(x, y) })
}

func none(x api.Slots) bool {
	return len(x.Live) == 0 && len(x.Free) == 0
}

// upTo is the numbers below n.
func upTo(n int) []int {
	l := []int{}
	for i := range n {
		l = append(l, i)
	}
	return l
}

// copied is slots of their own memory.
func copied(x api.Slots) api.Slots {
	y := api.Slots{Live: slices.Clone(x.Live)}
	for _, free := range x.Free {
		y.Free = append(y.Free, slices.Clone(free))
	}
	return y
}

// some is slots picked by r.
func some(r *rand.Rand, disks int) api.Slots {
	x := api.Slots{}
	for range disks {
		x.Live = append(x.Live, r.Intn(4) > 0)
		free := []int{}
		p := r.Intn(4)
		for n := range 6 {
			if r.Intn(4) < p {
				free = append(free, n)
			}
		}
		x.Free = append(x.Free, free)
	}
	return x
}

// misfits are slots that may not be.
func misfits() []api.Slots {
	return []api.Slots{
		{}, {Live: []bool{true}}, {Free: [][]int{nil}}, {Live: []bool{true}, Free: [][]int{nil, nil}},
		{Live: make([]bool, 13), Free: make([][]int, 13)}, {Live: []bool{true, false}, Free: [][]int{{0}, {2, 1}}},
		{Live: []bool{true}, Free: [][]int{{1, 1}}}, {Live: []bool{true}, Free: [][]int{{-1}}}, {Live: []bool{false}, Free: [][]int{{64}}},
	}
}

func TestMisfits(t *testing.T) {
	for i, x := range misfits() {
		n, e1 := Count(x)
		l, y, e2 := Take(x, 1, nil)
		g, e3 := Give(x, api.Slot{Disk: 0, At: 5})
		v, e4 := Live(x, 0, true, 1)
		if n != 0 || len(l) != 0 || !none(y) || !none(g) || !none(v) {
			t.Errorf("misfit %d: an answer beside an error", i)
		}
		for j, e := range []api.Errno{Check(x), e1, e2, e3, e4} {
			if e != api.ErrForm {
				t.Errorf("misfit %d, call %d: %d", i, j, e)
			}
		}
	}
}

func TestNewAndCount(t *testing.T) {
	for _, n := range [][2]int{{0, 1}, {13, 1}, {-1, 1}, {1, -1}, {1, 65}} {
		if x, e := New(n[0], n[1]); !none(x) || e != api.ErrForm {
			t.Errorf("%v: %d", n, e)
		}
	}
	for _, n := range [][2]int{{1, 0}, {12, 64}, {3, 2}} {
		x, e := New(n[0], n[1])
		if e != api.OK || Check(x) != api.OK || len(x.Live) != n[0] {
			t.Fatalf("%v: %d", n, e)
		}
		for d := range x.Live {
			if !x.Live[d] || !slices.Equal(x.Free[d], upTo(n[1])) {
				t.Errorf("%v: disk %d: %v", n, d, x.Free[d])
			}
		}
		if c, e := Count(x); c != n[0]*n[1] || e != api.OK {
			t.Errorf("%v: %d, %d", n, c, e)
		}
		// No list has room in another one.
		x.Free[0] = append(x.Free[0], 77)
		for d := 1; d < n[0]; d++ {
			if !slices.Equal(x.Free[d], upTo(n[1])) {
				t.Errorf("%v: disk %d was written", n, d)
			}
		}
	}
	x := api.Slots{Live: []bool{true, false, true}, Free: [][]int{{1, 5}, {0, 1, 2}, {63}}}
	if c, e := Count(x); c != 3 || e != api.OK {
		t.Errorf("a disk that is lost: %d, %d", c, e)
	}
}

func TestTakeExamples(t *testing.T) {
	x, _ := New(3, 2)
	l, y, e := Take(x, 2, nil)
	if !slices.Equal(l, []api.Slot{{Disk: 0, At: 0}, {Disk: 1, At: 0}}) || e != api.OK {
		t.Errorf("the example: %v, %d", l, e)
	}
	if want := (api.Slots{Live: []bool{true, true, true}, Free: [][]int{{1}, {1}, {0, 1}}}); !same(y, want) || len(x.Free[0]) != 2 {
		t.Errorf("behind: %v", y)
	}
	x = api.Slots{Live: []bool{true, true, false, true, true}, Free: [][]int{{3}, {}, {0, 1, 2}, {4, 9}, {2, 7}}}
	rows := []struct {
		n    int
		not  []int
		want []api.Slot
		e    api.Errno
	}{
		{3, nil, []api.Slot{{Disk: 3, At: 4}, {Disk: 4, At: 2}, {Disk: 0, At: 3}}, api.OK},
		{1, []int{3, 3, -1, 99}, []api.Slot{{Disk: 4, At: 2}}, api.OK},
		{4, nil, nil, api.ErrFull}, {5, nil, nil, api.ErrFew}, {12, nil, nil, api.ErrFew}, {3, []int{4}, nil, api.ErrFull}, {3, []int{4, 0}, nil, api.ErrFew},
		{1, []int{0, 3, 4}, nil, api.ErrFull}, {1, []int{0, 1, 3, 4}, nil, api.ErrFew}, {0, nil, nil, api.ErrForm}, {13, nil, nil, api.ErrForm}, {-1, nil, nil, api.ErrForm},
	}
	for i, row := range rows {
		l, y, e := Take(x, row.n, row.not)
		if !slices.Equal(l, row.want) || e != row.e || e != api.OK && !none(y) {
			t.Errorf("row %d: %v, %d", i, l, e)
		}
	}
}

func TestTakeGiveBack(t *testing.T) {
	r := rand.New(rand.NewSource(24))
	for range 500 {
		x := some(r, 1+r.Intn(12))
		before := copied(x)
		l, y, e := Take(x, 1+r.Intn(5), []int{r.Intn(12)})
		if !same(x, before) {
			t.Fatalf("what was handed in has changed")
		}
		if e != api.OK {
			continue
		}
		for i, s := range l {
			if !x.Live[s.Disk] || x.Free[s.Disk][0] != s.At || slices.Contains(y.Free[s.Disk], s.At) {
				t.Fatalf("%v of %v", s, x)
			}
			if i > 0 && (len(x.Free[l[i-1].Disk]) < len(x.Free[s.Disk]) || len(x.Free[l[i-1].Disk]) == len(x.Free[s.Disk]) && l[i-1].Disk >= s.Disk) {
				t.Fatalf("order: %v of %v", l, x)
			}
		}
		for _, s := range l {
			z, e := Give(y, s)
			if e != api.OK {
				t.Fatalf("%v: %d", s, e)
			}
			y = z
		}
		if !same(y, x) {
			t.Fatalf("%v, not %v", y, x)
		}
	}
}

func TestGive(t *testing.T) {
	x := api.Slots{Live: []bool{true, false}, Free: [][]int{{1, 3}, {}}}
	rows := []struct {
		s    api.Slot
		free []int
		e    api.Errno
	}{
		{api.Slot{Disk: 0, At: 2}, []int{1, 2, 3}, api.OK}, {api.Slot{Disk: 0, At: 0}, []int{0, 1, 3}, api.OK}, {api.Slot{Disk: 0, At: 63}, []int{1, 3, 63}, api.OK},
		{api.Slot{Disk: 1, At: 7}, []int{7}, api.OK}, {api.Slot{Disk: 0, At: 3}, nil, api.ErrThere},
		{api.Slot{Disk: 2, At: 0}, nil, api.ErrForm}, {api.Slot{Disk: -1, At: 0}, nil, api.ErrForm}, {api.Slot{Disk: 0, At: 64}, nil, api.ErrForm}, {api.Slot{Disk: 0, At: -1}, nil, api.ErrForm},
	}
	for i, row := range rows {
		y, e := Give(x, row.s)
		if e != row.e || e != api.OK && !none(y) || e == api.OK && !slices.Equal(y.Free[row.s.Disk], row.free) {
			t.Errorf("row %d: %v, %d", i, y, e)
		}
	}
	if len(x.Free[0]) != 2 || len(x.Free[1]) != 0 {
		t.Errorf("what was handed in has changed")
	}
}

func TestLive(t *testing.T) {
	x := api.Slots{Live: []bool{true, false}, Free: [][]int{{1, 3}, {5}}}
	rows := []struct {
		d    int
		is   bool
		n    int
		free []int
		e    api.Errno
	}{
		{0, true, 9, []int{1, 3}, api.OK}, {0, false, 9, []int{1, 3}, api.OK}, {1, false, 9, []int{5}, api.OK}, {1, true, 3, []int{0, 1, 2}, api.OK}, {1, true, 0, nil, api.OK}, {1, true, 64, upTo(64), api.OK},
		{2, true, 1, nil, api.ErrForm}, {-1, true, 1, nil, api.ErrForm}, {0, true, 65, nil, api.ErrForm}, {0, true, -1, nil, api.ErrForm},
	}
	for i, row := range rows {
		y, e := Live(x, row.d, row.is, row.n)
		if e != row.e || e != api.OK && !none(y) {
			t.Errorf("row %d: %v, %d", i, y, e)
		}
		if e == api.OK && (y.Live[row.d] != row.is || !slices.Equal(y.Free[row.d], row.free) || y.Live[1-row.d] != x.Live[1-row.d]) {
			t.Errorf("row %d: %v", i, y)
		}
	}
	if !x.Live[0] || x.Live[1] || len(x.Free[1]) != 1 {
		t.Errorf("what was handed in has changed")
	}
	// Answers are copies.
	y, _ := Live(x, 0, true, 1)
	y.Free[0][0], y.Live[1] = 60, true
	if x.Free[0][0] != 1 || x.Live[1] {
		t.Errorf("an answer shares memory")
	}
}
