package spot_test

import (
	"math/rand"
	"slices"
	"strings"
	"testing"

	"silo/api"
	"silo/code"
	. "silo/spot"
)

func pieces(r *rand.Rand, s api.Shape) []string {
	l := []string{}
	for range s.K {
		t := make([]byte, s.Size)
		r.Read(t)
		l = append(l, string(t))
	}
	all, _ := code.Encode(s, l)
	return all
}

// spoil makes some texts other ones; it tells which.
func spoil(r *rand.Rand, all []string, n int) ([]string, []int) {
	l := slices.Clone(all)
	which := r.Perm(len(all))[:n]
	slices.Sort(which)
	for _, i := range which {
		b := []byte(l[i])
		b[r.Intn(len(b))] ^= byte(1 + r.Intn(255))
		l[i] = string(b)
	}
	return l, which
}

func TestMended(t *testing.T) {
	r := rand.New(rand.NewSource(12))
	for k := 1; k <= api.MaxK; k++ {
		for m := 0; m <= api.MaxM; m++ {
			s := api.Shape{K: k, M: m, Size: 1 + r.Intn(20)}
			for n := 0; n <= m/2; n++ {
				all := pieces(r, s)
				l, which := spoil(r, all, n)
				before := slices.Clone(l)
				wrong, e := Wrong(s, l)
				back, f := Mended(s, l)
				if !slices.Equal(wrong, which) || !slices.Equal(back, all) || e != api.OK || f != api.OK {
					t.Fatalf("%v, %d wrong: %v, %d, %d", s, n, wrong, e, f)
				}
				if !slices.Equal(before, l) {
					t.Fatalf("what was handed in has changed")
				}
			}
		}
	}
}

// near is Wrong by the words, of one byte's shapes with K 1: whichever byte the most have.
func near(s api.Shape, l []string) ([]int, api.Errno) {
	for b := range 256 {
		wrong := []int{}
		for i, t := range l {
			if t[0] != byte(b) {
				wrong = append(wrong, i)
			}
		}
		if len(wrong) <= s.M/2 {
			return wrong, api.OK
		}
	}
	return nil, api.ErrLost
}

func TestLost(t *testing.T) {
	for m := range 7 {
		s := api.Shape{K: 1, M: m, Size: 1}
		for set := range 1 << (2 * (m + 1)) {
			l := []string{}
			for i := range m + 1 {
				l = append(l, "abcd"[set>>(2*i)&3:][:1])
			}
			want, f := near(s, l)
			wrong, e := Wrong(s, l)
			back, g := Mended(s, l)
			if !slices.Equal(wrong, want) || e != f || g != f || (g == api.OK) != (len(back) == m+1) {
				t.Fatalf("%q: %v, %d, not %v, %d", l, wrong, e, want, f)
			}
		}
	}
}

func TestTooManyWrong(t *testing.T) {
	r := rand.New(rand.NewSource(13))
	lost := 0
	for range 60 {
		s := api.Shape{K: 1 + r.Intn(8), M: r.Intn(7), Size: 6}
		all := pieces(r, s)
		l, _ := spoil(r, all, min(s.M/2+1, s.K+s.M))
		wrong, e := Wrong(s, l)
		back, f := Mended(s, l)
		if e != f || e != api.OK && e != api.ErrLost {
			t.Fatalf("%v: %d, %d", s, e, f)
		}
		if e == api.ErrLost {
			lost++
			if len(wrong) != 0 || len(back) != 0 {
				t.Fatalf("%v: an answer beside an error", s)
			}
			continue
		}
		if is, _ := code.Verify(s, back); !is || len(wrong) > s.M/2 {
			t.Fatalf("%v: %v", s, wrong)
		}
	}
	if lost < 20 {
		t.Errorf("lost: %d", lost)
	}
	if _, e := Wrong(api.Shape{K: 8, M: 6, Size: 120}, texts(r, 14, 120)); e != api.ErrLost {
		t.Errorf("of anything: %d", e)
	}
}

func texts(r *rand.Rand, n, size int) []string {
	l := []string{}
	for range n {
		b := make([]byte, size)
		r.Read(b)
		l = append(l, string(b))
	}
	return l
}

func TestNear(t *testing.T) {
	r := rand.New(rand.NewSource(14))
	for range 100 {
		s := api.Shape{K: 1 + r.Intn(8), M: r.Intn(7), Size: 1 + r.Intn(5)}
		all := pieces(r, s)
		l, _ := spoil(r, all, r.Intn(len(all)+1))
		right, _ := code.Encode(s, l[:s.K])
		want := 0
		for i := range l {
			if l[i] != right[i] {
				want++
			}
		}
		if n, e := Near(s, l); n != want || e != api.OK {
			t.Fatalf("%v: %d, not %d, %d", s, n, want, e)
		}
		if n, e := Near(s, all); n != 0 || e != api.OK {
			t.Fatalf("%v: of pieces: %d, %d", s, n, e)
		}
	}
	// A turned first piece makes all others unlike.
	s := api.Shape{K: 1, M: 4, Size: 1}
	if n, e := Near(s, strings.Split("b a a a a", " ")); n != 4 || e != api.OK {
		t.Errorf("%d, %d", n, e)
	}
}

func TestForm(t *testing.T) {
	good := api.Shape{K: 2, M: 2, Size: 2}
	rows := []struct {
		s api.Shape
		l []string
	}{
		{api.Shape{}, nil}, {api.Shape{K: 9, M: 0, Size: 1}, texts(rand.New(rand.NewSource(1)), 9, 1)},
		{good, nil}, {good, []string{"aa", "aa", "aa"}}, {good, []string{"aa", "aa", "aa", "aa", "aa"}},
		{good, []string{"aa", "aa", "aa", "a"}}, {good, []string{"aaa", "aa", "aa", "aa"}},
	}
	for i, row := range rows {
		wrong, e1 := Wrong(row.s, row.l)
		back, e2 := Mended(row.s, row.l)
		n, e3 := Near(row.s, row.l)
		if len(wrong) != 0 || len(back) != 0 || n != 0 || e1 != api.ErrForm || e2 != api.ErrForm || e3 != api.ErrForm {
			t.Errorf("row %d: %d, %d, %d", i, e1, e2, e3)
		}
	}
}

func BenchmarkLost(b *testing.B) {
	l := texts(rand.New(rand.NewSource(15)), 14, 120)
	for b.Loop() {
		Wrong(api.Shape{K: 8, M: 6, Size: 120}, l)
	}
}
