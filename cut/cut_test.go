package cut_test

import (
	"math/rand"
	"slices"
	"strings"
	"testing"

	"silo/api"
	. "silo/cut"
)

func text(r *rand.Rand, n int) string {
	b := make([]byte, n)
	r.Read(b)
	return string(b)
}

// lengths are some around the edges of a shape's stripes.
func lengths(s api.Shape) []int {
	n := s.K * s.Size
	l := []int{0, 1, api.MaxBlob - 1, api.MaxBlob}
	for _, m := range []int{n - 1, n, n + 1, 2*n - 1, 2 * n, 2*n + 1} {
		if m <= api.MaxBlob {
			l = append(l, m)
		}
	}
	return l
}

func shapes() []api.Shape {
	return []api.Shape{{K: 1, M: 0, Size: 1}, {K: 1, M: 2, Size: 120}, {K: 3, M: 2, Size: 7}, {K: 8, M: 6, Size: 120}, {K: 2, M: 1, Size: 50}}
}

func TestStripesAndParts(t *testing.T) {
	r := rand.New(rand.NewSource(17))
	for _, s := range shapes() {
		for _, n := range lengths(s) {
			x := text(r, n)
			want := []string{}
			for rest := x; rest != ""; {
				m := min(len(rest), s.K*s.Size)
				want, rest = append(want, rest[:m]), rest[m:]
			}
			many, e := Stripes(s, n)
			parts, f := Parts(s, x)
			if many != len(want) || !slices.Equal(parts, want) || e != api.OK || f != api.OK {
				t.Errorf("%v, %d bytes: %d, %d parts, %d, %d", s, n, many, len(parts), e, f)
			}
		}
	}
}

func TestLanesAndJoin(t *testing.T) {
	r := rand.New(rand.NewSource(18))
	for _, s := range shapes() {
		all := s.K * s.Size
		for _, n := range []int{1, s.Size, all/2 + 1, all - 1, all} {
			if n < 1 {
				continue
			}
			x := text(r, n)
			l, e := Lanes(s, x)
			if e != api.OK || len(l) != s.K || strings.Join(l, "") != x+strings.Repeat("\x00", all-n) {
				t.Fatalf("%v, %d bytes: %d", s, n, e)
			}
			for _, p := range l {
				if len(p) != s.Size {
					t.Fatalf("%v: a piece of %d bytes", s, len(p))
				}
			}
			if back, e := Join(s, l, n); back != x || e != api.OK {
				t.Errorf("%v, %d bytes: joined %d", s, n, e)
			}
			if n < all {
				b := []byte(l[s.K-1])
				b[s.Size-1] = 1
				l[s.K-1] = string(b)
				if back, e := Join(s, l, n); back != "" || e != api.ErrBad {
					t.Errorf("%v, %d bytes and another: %d", s, n, e)
				}
			}
		}
	}
	s := api.Shape{K: 2, M: 0, Size: 2}
	if x, e := Join(s, []string{"ab", "\x00c"}, 2); x != "" || e != api.ErrBad {
		t.Errorf("behind: %q, %d", x, e)
	}
	if x, e := Join(s, []string{"a\x00", "\x00\x00"}, 2); x != "a\x00" || e != api.OK {
		t.Errorf("zeros within: %q, %d", x, e)
	}
}

func TestErrors(t *testing.T) {
	good := api.Shape{K: 2, M: 1, Size: 2}
	long := strings.Repeat("x", api.MaxBlob+1)
	for _, s := range []api.Shape{{}, {K: 9, M: 0, Size: 1}, {K: 1, M: 7, Size: 1}, {K: 1, M: 0, Size: 121}} {
		n, e1 := Stripes(s, 1)
		parts, e2 := Parts(s, long)
		lanes, e3 := Lanes(s, "a")
		x, e4 := Join(s, []string{"a"}, 1)
		if n != 0 || len(parts) != 0 || len(lanes) != 0 || x != "" {
			t.Errorf("%v: an answer beside an error", s)
		}
		for i, e := range []api.Errno{e1, e2, e3, e4} {
			if e != api.ErrForm {
				t.Errorf("%v, call %d: %d", s, i, e)
			}
		}
	}
	for _, n := range []int{-1, api.MaxBlob + 1, 1<<63 - 1, -1 << 63} {
		if m, e := Stripes(good, n); m != 0 || e != api.ErrForm {
			t.Errorf("%d bytes: %d", n, e)
		}
	}
	if l, e := Parts(good, long); len(l) != 0 || e != api.ErrLimit {
		t.Errorf("parts of too many: %d", e)
	}
	for _, x := range []string{"", "abcde"} {
		if l, e := Lanes(good, x); len(l) != 0 || e != api.ErrForm {
			t.Errorf("lanes of %q: %d", x, e)
		}
	}
	rows := []struct {
		l []string
		n int
	}{{nil, 1}, {[]string{"ab"}, 1}, {[]string{"ab", "cd", "ef"}, 4}, {[]string{"ab", "c"}, 4}, {[]string{"ab", "cde"}, 4},
		{[]string{"ab", "cd"}, 0}, {[]string{"ab", "cd"}, 5}, {[]string{"ab", "cd"}, -1}}
	for i, row := range rows {
		if x, e := Join(good, row.l, row.n); x != "" || e != api.ErrForm {
			t.Errorf("row %d: %q, %d", i, x, e)
		}
	}
}
