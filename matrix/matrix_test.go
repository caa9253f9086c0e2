package matrix_test

import (
	"math/rand"
	"slices"
	"strings"
	"testing"

	"silo/api"
	"silo/field"
	. "silo/matrix"
)

func some(r *rand.Rand, rows, cols int) api.Matrix {
	m := api.Matrix{Rows: rows, Cols: cols, L: make([]byte, rows*cols)}
	r.Read(m.L)
	return m
}

func same(a, b api.Matrix) bool {
	return a.Rows == b.Rows && a.Cols == b.Cols && slices.Equal(a.L, b.L)
}

func none(m api.Matrix) bool {
	return m.Rows == 0 && m.Cols == 0 && len(m.L) == 0
}

// misfits are matrices that may not be.
func misfits() []api.Matrix {
	return []api.Matrix{
		{},
		{Rows: 1, Cols: 1},
		{Rows: 2, Cols: 2, L: make([]byte, 3)},
		{Rows: 2, Cols: 2, L: make([]byte, 5)},
		{Rows: 17, Cols: 1, L: make([]byte, 17)},
		{Rows: 1, Cols: 17, L: make([]byte, 17)},
		{Rows: -1, Cols: -1, L: make([]byte, 1)},
		{Rows: 0, Cols: 3},
		{Rows: 1 << 62, Cols: 4},
	}
}

func TestMisfits(t *testing.T) {
	good := api.Matrix{Rows: 1, Cols: 1, L: []byte{7}}
	for i, m := range misfits() {
		a, e1 := Mul(m, good)
		b, e2 := Mul(good, m)
		c, e3 := Pick(m, []int{0})
		n, e4 := Rank(m)
		d, e5 := Invert(m)
		l, e6 := Apply(m, []string{strings.Repeat("x", api.MaxBytes+1)})
		for j, e := range []api.Errno{Check(m), e1, e2, e3, e4, e5, e6} {
			if e != api.ErrForm {
				t.Errorf("misfit %d, call %d: %d", i, j, e)
			}
		}
		if !none(a) || !none(b) || !none(c) || n != 0 || !none(d) || len(l) != 0 {
			t.Errorf("misfit %d: an answer beside an error", i)
		}
	}
	for _, m := range []api.Matrix{good, {Rows: 16, Cols: 16, L: make([]byte, 256)}} {
		if Check(m) != api.OK {
			t.Errorf("%d by %d: %d", m.Rows, m.Cols, Check(m))
		}
	}
}

func TestOne(t *testing.T) {
	for _, n := range []int{-1, 0, 17} {
		if m, e := One(n); !none(m) || e != api.ErrForm {
			t.Errorf("%d: %d", n, e)
		}
	}
	for n := 1; n <= 16; n++ {
		m, e := One(n)
		if e != api.OK || m.Rows != n || m.Cols != n || len(m.L) != n*n {
			t.Fatalf("%d: %d", n, e)
		}
		for i, x := range m.L {
			if (x == 1) != (i/n == i%n) || x > 1 {
				t.Errorf("%d: %d at %d", n, x, i)
			}
		}
		if r, e := Rank(m); r != n || e != api.OK {
			t.Errorf("rank of %d: %d", n, r)
		}
		if i, e := Invert(m); !same(i, m) || e != api.OK {
			t.Errorf("inverse of %d: %d", n, e)
		}
	}
}

func TestMul(t *testing.T) {
	r := rand.New(rand.NewSource(4))
	for range 60 {
		a := some(r, 1+r.Intn(16), 1+r.Intn(16))
		b := some(r, a.Cols, 1+r.Intn(16))
		m, e := Mul(a, b)
		if e != api.OK || Check(m) != api.OK || m.Rows != a.Rows || m.Cols != b.Cols {
			t.Fatalf("%d", e)
		}
		for i := range m.Rows {
			for j := range m.Cols {
				x := byte(0)
				for k := range a.Cols {
					x ^= field.Mul(a.L[i*a.Cols+k], b.L[k*b.Cols+j])
				}
				if m.L[i*m.Cols+j] != x {
					t.Fatalf("at %d, %d: %d, not %d", i, j, m.L[i*m.Cols+j], x)
				}
			}
		}
	}
	if m, e := Mul(some(r, 2, 3), some(r, 2, 3)); !none(m) || e != api.ErrForm {
		t.Errorf("unlike sides: %d", e)
	}
}

func TestPick(t *testing.T) {
	m := api.Matrix{Rows: 3, Cols: 2, L: []byte{1, 2, 3, 4, 5, 6}}
	p, e := Pick(m, []int{2, 0, 2})
	if want := (api.Matrix{Rows: 3, Cols: 2, L: []byte{5, 6, 1, 2, 5, 6}}); !same(p, want) || e != api.OK {
		t.Errorf("%v, %d", p, e)
	}
	p.L[0] = 77
	if m.L[4] != 5 {
		t.Errorf("what was handed in has changed")
	}
	for _, l := range [][]int{nil, {3}, {-1}, {0, 1, 3}, make([]int, 17)} {
		if p, e := Pick(m, l); !none(p) || e != api.ErrForm {
			t.Errorf("%v: %d", l, e)
		}
	}
	if p, e := Pick(m, make([]int, 16)); p.Rows != 16 || e != api.OK {
		t.Errorf("16 rows: %d", e)
	}
}

func TestInvert(t *testing.T) {
	r := rand.New(rand.NewSource(5))
	inverted := 0
	for range 200 {
		n := 1 + r.Intn(16)
		m := some(r, n, n)
		before := slices.Clone(m.L)
		rank, e := Rank(m)
		x, f := Invert(m)
		if !slices.Equal(before, m.L) {
			t.Fatalf("what was handed in has changed")
		}
		if e != api.OK || (f == api.OK) != (rank == n) || f != api.OK && (f != api.ErrNone || !none(x)) {
			t.Fatalf("%d: rank %d, %d, %d", n, rank, e, f)
		}
		if f != api.OK {
			continue
		}
		inverted++
		one, _ := One(n)
		left, _ := Mul(x, m)
		right, _ := Mul(m, x)
		back, _ := Invert(x)
		if !same(left, one) || !same(right, one) || !same(back, m) {
			t.Fatalf("%d: no inverse", n)
		}
	}
	if inverted < 100 {
		t.Errorf("inverted: %d", inverted)
	}
	if m, e := Invert(some(r, 2, 3)); !none(m) || e != api.ErrForm {
		t.Errorf("not square: %d", e)
	}
	// A 0 ahead asks for another row to begin with.
	turned := api.Matrix{Rows: 2, Cols: 2, L: []byte{0, 1, 1, 0}}
	if m, e := Invert(turned); !same(m, turned) || e != api.OK {
		t.Errorf("turned: %v, %d", m, e)
	}
}

func TestRank(t *testing.T) {
	r := rand.New(rand.NewSource(6))
	for range 100 {
		rank := 1 + r.Intn(6)
		// A product of rank columns and rank rows, each holding a One, has that rank.
		a, b := some(r, rank+r.Intn(8), rank), some(r, rank, rank+r.Intn(8))
		for i := range rank {
			for j := range rank {
				one := byte(0)
				if i == j {
					one = 1
				}
				a.L[i*a.Cols+j], b.L[i*b.Cols+j] = one, one
			}
		}
		m, _ := Mul(a, b)
		if n, e := Rank(m); n != rank || e != api.OK {
			t.Fatalf("%d, not %d, %d", n, rank, e)
		}
		square := min(m.Rows, m.Cols)
		if rank < square {
			l := []int{}
			for i := range m.Cols {
				l = append(l, i%m.Rows)
			}
			p, _ := Pick(m, l)
			if x, e := Invert(p); !none(x) || e != api.ErrNone {
				t.Fatalf("rank %d of %d: inverted, %d", rank, m.Cols, e)
			}
		}
	}
	for _, m := range []api.Matrix{{Rows: 3, Cols: 4, L: make([]byte, 12)}, {Rows: 1, Cols: 1, L: []byte{0}}} {
		if n, e := Rank(m); n != 0 || e != api.OK {
			t.Errorf("of zeros: %d, %d", n, e)
		}
	}
}

func TestApply(t *testing.T) {
	r := rand.New(rand.NewSource(7))
	for _, n := range []int{0, 1, 50, api.MaxBytes} {
		a, b := some(r, 5, 4), some(r, 4, 3)
		l := []string{}
		for range 3 {
			x := make([]byte, n)
			r.Read(x)
			l = append(l, string(x))
		}
		inner, e1 := Apply(b, l)
		both, e2 := Apply(a, inner)
		m, _ := Mul(a, b)
		at, e3 := Apply(m, l)
		if e1 != api.OK || e2 != api.OK || e3 != api.OK || !slices.Equal(both, at) || len(at) != 5 {
			t.Fatalf("%d bytes: %d, %d, %d", n, e1, e2, e3)
		}
		for i, s := range inner {
			for k := range n {
				x := byte(0)
				for j := range l {
					x ^= field.Mul(b.L[i*3+j], l[j][k])
				}
				if s[k] != x {
					t.Fatalf("lane %d at %d", i, k)
				}
			}
		}
	}
	m := some(r, 2, 2)
	long := strings.Repeat("x", api.MaxBytes+1)
	rows := []struct {
		l    []string
		want api.Errno
	}{
		{nil, api.ErrForm}, {[]string{"a"}, api.ErrForm}, {[]string{"a", "b", "c"}, api.ErrForm},
		{[]string{long}, api.ErrForm}, {[]string{"a", long}, api.ErrLimit}, {[]string{long, "a"}, api.ErrLimit},
		{[]string{"a", "bc"}, api.ErrForm},
	}
	for i, row := range rows {
		if l, e := Apply(m, row.l); len(l) != 0 || e != row.want {
			t.Errorf("row %d: %d, not %d", i, e, row.want)
		}
	}
}
