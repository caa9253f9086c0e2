package code_test

import (
	"math/rand"
	"slices"
	"strings"
	"testing"

	"silo/api"
	. "silo/code"
	"silo/field"
	"silo/matrix"
)

func texts(r *rand.Rand, n, size int) []string {
	l := []string{}
	for range n {
		t := make([]byte, size)
		r.Read(t)
		l = append(l, string(t))
	}
	return l
}

// misfits are shapes that may not be.
func misfits() []api.Shape {
	return []api.Shape{{}, {K: 0, M: 1, Size: 1}, {K: 9, M: 1, Size: 1}, {K: 1, M: -1, Size: 1}, {K: 1, M: 7, Size: 1},
		{K: 1, M: 1, Size: 0}, {K: 1, M: 1, Size: 121}, {K: -1, M: 2, Size: 1}}
}

func TestMisfits(t *testing.T) {
	for _, s := range misfits() {
		m, e1 := Matrix(s)
		l, e2 := Encode(s, []string{"a"})
		k, e3 := Rebuild(s, []string{"a", "a"}, []bool{true, true})
		v, e4 := Verify(s, []string{"a", "a"})
		for i, e := range []api.Errno{Check(s), e1, e2, e3, e4} {
			if e != api.ErrForm {
				t.Errorf("%v, call %d: %d", s, i, e)
			}
		}
		if m.Rows != 0 || m.Cols != 0 || len(m.L) != 0 || len(l) != 0 || len(k) != 0 || v {
			t.Errorf("%v: an answer beside an error", s)
		}
	}
}

func TestGenerator(t *testing.T) {
	for k := 1; k <= api.MaxK; k++ {
		for m := 0; m <= api.MaxM; m++ {
			s := api.Shape{K: k, M: m, Size: 1}
			if Check(s) != api.OK {
				t.Fatalf("%v: %d", s, Check(s))
			}
			g, e := Matrix(s)
			if e != api.OK || g.Rows != k+m || g.Cols != k {
				t.Fatalf("%v: %d", s, e)
			}
			// The generator times the powers' first rows is the powers.
			v := api.Matrix{Rows: k + m, Cols: k}
			for row := range k + m {
				for col := range k {
					x, _ := field.Exp(row)
					y, _ := field.Pow(x, col)
					v.L = append(v.L, y)
				}
			}
			top := api.Matrix{Rows: k, Cols: k, L: v.L[:k*k]}
			if p, _ := matrix.Mul(g, top); !slices.Equal(p.L, v.L) {
				t.Errorf("%v: %v", s, g.L)
			}
			for i := range k * k {
				if (g.L[i] == 1) != (i/k == i%k) || g.L[i] > 1 {
					t.Errorf("%v: the data's own rows", s)
				}
			}
		}
	}
}

func TestEncode(t *testing.T) {
	l, e := Encode(api.Shape{K: 1, M: 2, Size: 3}, []string{"abc"})
	if !slices.Equal(l, []string{"abc", "abc", "abc"}) || e != api.OK {
		t.Errorf("the example: %v, %d", l, e)
	}
	r := rand.New(rand.NewSource(8))
	s := api.Shape{K: 8, M: 6, Size: api.MaxSize}
	data := texts(r, 8, api.MaxSize)
	g, _ := Matrix(s)
	l, e = Encode(s, data)
	want, _ := matrix.Apply(g, data)
	if !slices.Equal(l, want) || !slices.Equal(l[:8], data) || e != api.OK {
		t.Errorf("pieces: %d", e)
	}
	for _, bad := range [][]string{nil, data[:7], l[:9], append(texts(r, 7, 120), "x"), append(texts(r, 7, 120), strings.Repeat("x", 121))} {
		if l, e := Encode(s, bad); len(l) != 0 || e != api.ErrForm {
			t.Errorf("%d texts: %d", len(bad), e)
		}
	}
}

// TestRebuild: whichever pieces are there, if K are, all come back; what lies in others' places is not looked at.
func TestRebuild(t *testing.T) {
	r := rand.New(rand.NewSource(9))
	for _, s := range []api.Shape{{K: 1, M: 0, Size: 1}, {K: 1, M: 3, Size: 5}, {K: 3, M: 2, Size: 7}, {K: 4, M: 4, Size: 2}, {K: 8, M: 3, Size: 3}} {
		n := s.K + s.M
		data := texts(r, s.K, s.Size)
		all, _ := Encode(s, data)
		for set := range 1 << n {
			l, there, many := slices.Clone(all), make([]bool, n), 0
			for i := range n {
				there[i] = set>>i&1 == 1
				if there[i] {
					many++
				} else {
					l[i] = "other"[:i%4]
				}
			}
			back, e := Rebuild(s, l, there)
			if many < s.K && (len(back) != 0 || e != api.ErrLost) || many >= s.K && (!slices.Equal(back, all) || e != api.OK) {
				t.Fatalf("%v, %b: %d", s, set, e)
			}
		}
	}
}

func TestRebuildTakesTheFirst(t *testing.T) {
	s := api.Shape{K: 2, M: 2, Size: 1}
	all, _ := Encode(s, []string{"a", "b"})
	l := []string{all[0], "", all[2], "?"}
	back, e := Rebuild(s, l, []bool{true, false, true, true})
	if !slices.Equal(back, all) || e != api.OK || l[3] != "?" {
		t.Errorf("%v, %d", back, e)
	}
}

func TestRebuildErrors(t *testing.T) {
	s := api.Shape{K: 2, M: 1, Size: 1}
	yes := []bool{true, true, true}
	rows := []struct {
		l     []string
		there []bool
		want  api.Errno
	}{
		{nil, nil, api.ErrForm}, {[]string{"a", "b"}, yes, api.ErrForm}, {[]string{"a", "b", "c"}, yes[:2], api.ErrForm},
		{[]string{"a", "b", "c", "d"}, append(yes, true), api.ErrForm}, {[]string{"a", "b", "cc"}, yes, api.ErrForm},
		{[]string{"a", "bb", "c"}, []bool{false, true, false}, api.ErrForm},
		{[]string{"a", "bb", "c"}, []bool{true, false, false}, api.ErrLost},
		{[]string{"", "", ""}, make([]bool, 3), api.ErrLost},
	}
	for i, row := range rows {
		if l, e := Rebuild(s, row.l, row.there); len(l) != 0 || e != row.want {
			t.Errorf("row %d: %d, not %d", i, e, row.want)
		}
	}
}

func TestVerify(t *testing.T) {
	r := rand.New(rand.NewSource(10))
	for _, s := range []api.Shape{{K: 1, M: 0, Size: 1}, {K: 3, M: 2, Size: 4}, {K: 8, M: 6, Size: 120}} {
		all, _ := Encode(s, texts(r, s.K, s.Size))
		if is, e := Verify(s, all); !is || e != api.OK {
			t.Errorf("%v: %d", s, e)
		}
		for i := range all {
			l := slices.Clone(all)
			b := []byte(l[i])
			b[r.Intn(len(b))] ^= 1 << r.Intn(8)
			l[i] = string(b)
			if is, e := Verify(s, l); is != (s.M == 0) || e != api.OK {
				t.Errorf("%v, piece %d turned: %v, %d", s, i, is, e)
			}
			l[i] += "x"
			if is, e := Verify(s, l); is || e != api.ErrForm {
				t.Errorf("%v, piece %d longer: %d", s, i, e)
			}
		}
		if is, e := Verify(s, all[1:]); is || e != api.ErrForm {
			t.Errorf("%v, one less: %d", s, e)
		}
	}
}

// TestUnlike: two unlike data's pieces are unlike in more than M places.
func TestUnlike(t *testing.T) {
	r := rand.New(rand.NewSource(11))
	for range 300 {
		s := api.Shape{K: 1 + r.Intn(8), M: r.Intn(7), Size: 1}
		a := texts(r, s.K, 1)
		b := slices.Clone(a)
		b[r.Intn(s.K)] = string([]byte{byte(r.Intn(256))})
		if slices.Equal(a, b) {
			continue
		}
		x, _ := Encode(s, a)
		y, _ := Encode(s, b)
		n := 0
		for i := range x {
			if x[i] != y[i] {
				n++
			}
		}
		if n <= s.M {
			t.Fatalf("%v: %d", s, n)
		}
	}
}
