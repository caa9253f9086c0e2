package rota_test

import (
	"slices"
	"testing"

	"silo/api"
	. "silo/rota"
)

func shape() api.Shape {
	return api.Shape{K: 1, M: 1, Size: 5}
}

// of is a book of stripes with these IDs.
func of(ids ...int) api.Book {
	b := api.Book{}
	for i, id := range ids {
		b.Stripes = append(b.Stripes, api.Stripe{ID: id, Len: 1, Place: []api.Slot{{Disk: 0, At: i}, {Disk: 1, At: i}}})
		b.Next = id + 1
	}
	return b
}

func at(stripe, index int) api.Cursor {
	return api.Cursor{Stripe: stripe, Index: index}
}

func TestNext(t *testing.T) {
	rows := []struct {
		ids        []int
		from, want api.Cursor
		e          api.Errno
	}{
		{[]int{3, 7, 8}, at(-1, -1), at(3, 0), api.OK}, {[]int{3, 7, 8}, at(3, -1), at(3, 0), api.OK}, {[]int{3, 7, 8}, at(3, 0), at(3, 1), api.OK}, {[]int{3, 7, 8}, at(3, 1), at(7, 0), api.OK},
		{[]int{3, 7, 8}, at(4, 0), at(7, 0), api.OK}, {[]int{3, 7, 8}, at(6, 1), at(7, 0), api.OK}, {[]int{3, 7, 8}, at(8, 0), at(8, 1), api.OK}, {[]int{3, 7, 8}, at(8, 1), at(3, 0), api.OK},
		{[]int{3, 7, 8}, at(9, -1), at(3, 0), api.OK}, {[]int{3, 7, 8}, at(api.MaxGen, 1), at(3, 0), api.OK}, {[]int{3, 7, 8}, at(-1, 1), at(3, 0), api.OK}, {[]int{0}, at(0, 1), at(0, 0), api.OK}, {[]int{0}, at(-1, 0), at(0, 0), api.OK},
		{nil, at(-1, -1), api.Cursor{}, api.ErrNone}, {nil, at(4, 1), api.Cursor{}, api.ErrNone},
		{nil, at(-2, 0), api.Cursor{}, api.ErrForm}, {[]int{3}, at(api.MaxGen+1, 0), api.Cursor{}, api.ErrForm}, {[]int{3}, at(3, 2), api.Cursor{}, api.ErrForm}, {[]int{3}, at(3, -2), api.Cursor{}, api.ErrForm},
	}
	for i, row := range rows {
		if c, e := Next(shape(), of(row.ids...), row.from); c != row.want || e != row.e {
			t.Errorf("row %d: %v, %d", i, c, e)
		}
	}
}

func TestForm(t *testing.T) {
	bad := of(3, 7)
	bad.Next = 7
	for i, row := range []struct {
		s api.Shape
		b api.Book
	}{{shape(), bad}, {api.Shape{}, of()}, {api.Shape{K: 2, M: 1, Size: 5}, of(1)}} {
		c, e1 := Next(row.s, row.b, at(-1, -1))
		n, e2 := Round(row.s, row.b)
		l, e3 := Fair(row.s, row.b, at(-1, -1), 1)
		if c != (api.Cursor{}) || n != 0 || len(l) != 0 || e1 != api.ErrForm || e2 != api.ErrForm || e3 != api.ErrForm {
			t.Errorf("row %d: %d, %d, %d", i, e1, e2, e3)
		}
	}
	for i, row := range []struct {
		ids  []int
		from api.Cursor
		n    int
		e    api.Errno
	}{{[]int{1}, at(-1, -1), -1, api.ErrForm}, {[]int{1}, at(-1, -1), 2001, api.ErrForm}, {nil, at(-1, -1), 2001, api.ErrForm}, {nil, at(-2, 0), 1, api.ErrForm}, {[]int{1}, at(1, 2), 1, api.ErrForm}, {nil, at(-1, -1), 0, api.ErrNone}, {nil, at(1, 1), 5, api.ErrNone}} {
		if l, e := Fair(shape(), of(row.ids...), row.from, row.n); len(l) != 0 || e != row.e {
			t.Errorf("fair row %d: %d", i, e)
		}
	}
}

// TestFair: it is Next, again and again; a round has each piece once.
func TestFair(t *testing.T) {
	b := of(2, 5, 6, 11)
	n, e := Round(shape(), b)
	if n != 8 || e != api.OK {
		t.Fatalf("round: %d, %d", n, e)
	}
	if n, e := Round(shape(), of()); n != 0 || e != api.OK {
		t.Errorf("round of none: %d, %d", n, e)
	}
	for stripe := -1; stripe < 14; stripe++ {
		for index := -1; index < 2; index++ {
			for _, many := range []int{0, 1, 7, 8, 9, 30, 2000} {
				l, e := Fair(shape(), b, at(stripe, index), many)
				want, c := []api.Cursor{}, at(stripe, index)
				for range many {
					c, _ = Next(shape(), b, c)
					want = append(want, c)
				}
				if !slices.Equal(l, want) || e != api.OK {
					t.Fatalf("%d, %d: %d pieces: %v, %d", stripe, index, many, l, e)
				}
				if many < n {
					continue
				}
				seen := map[api.Cursor]int{}
				for _, c := range l[:n] {
					seen[c]++
				}
				if len(seen) != n {
					t.Fatalf("%d, %d: %v", stripe, index, l)
				}
			}
		}
	}
}
