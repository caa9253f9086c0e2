package span_test

import (
	"math/rand"
	"slices"
	"testing"

	"silo/api"
	"silo/cut"
	. "silo/span"
)

func TestPartsOfATextAreItsBytes(t *testing.T) {
	r := rand.New(rand.NewSource(19))
	for range 400 {
		s := api.Shape{K: 1 + r.Intn(8), M: r.Intn(7), Size: 1 + r.Intn(120)}
		if r.Intn(3) == 0 {
			s.Size = 1 + r.Intn(4)
		}
		n := r.Intn(api.MaxBlob + 1)
		b := make([]byte, n)
		r.Read(b)
		from := r.Intn(n + 1)
		many := []int{0, 1, r.Intn(n + 1), n - from, n, 1<<63 - 1}[r.Intn(6)]
		texts, _ := cut.Parts(s, string(b))
		l, e := Parts(s, n, from, many)
		x, f := Take(texts, l)
		want := string(b[from:])
		if many < len(want) {
			want = want[:many]
		}
		if x != want || e != api.OK || f != api.OK {
			t.Fatalf("%v, %d bytes, %d from %d on: %d bytes, %d, %d", s, n, many, from, len(x), e, f)
		}
		last := -1
		for _, p := range l {
			if p.N <= last || p.Low >= p.High {
				t.Fatalf("%v: %v", s, l)
			}
			last = p.N
		}
		if want == "" && len(l) != 0 {
			t.Fatalf("of nothing: %v", l)
		}
	}
}

func TestPartsAtEdges(t *testing.T) {
	s := api.Shape{K: 2, M: 1, Size: 2}
	rows := []struct {
		n, from, many int
		want          []api.Part
	}{
		{0, 0, 5, nil}, {9, 9, 5, nil}, {9, 3, 0, nil}, {9, 4, 4, []api.Part{{N: 1, Low: 0, High: 4}}},
		{9, 3, 2, []api.Part{{N: 0, Low: 3, High: 4}, {N: 1, Low: 0, High: 1}}},
		{9, 0, 9, []api.Part{{N: 0, Low: 0, High: 4}, {N: 1, Low: 0, High: 4}, {N: 2, Low: 0, High: 1}}},
		{9, 8, 100, []api.Part{{N: 2, Low: 0, High: 1}}},
		{8, 7, 1, []api.Part{{N: 1, Low: 3, High: 4}}},
	}
	for _, row := range rows {
		if l, e := Parts(s, row.n, row.from, row.many); !slices.Equal(l, row.want) || e != api.OK {
			t.Errorf("%d, %d, %d: %v, %d", row.n, row.from, row.many, l, e)
		}
	}
}

func TestErrors(t *testing.T) {
	good := api.Shape{K: 2, M: 1, Size: 2}
	rows := []struct {
		s             api.Shape
		n, from, many int
	}{
		{api.Shape{}, 1, 0, 1}, {api.Shape{K: 9, M: 1, Size: 1}, 1, 0, 1}, {good, -1, 0, 0}, {good, api.MaxBlob + 1, 0, 1},
		{good, 3, -1, 1}, {good, 3, 4, 1}, {good, 3, 0, -1}, {good, 3, -1 << 63, 1}, {good, 3, 0, -1 << 63},
	}
	for i, row := range rows {
		if l, e := Parts(row.s, row.n, row.from, row.many); len(l) != 0 || e != api.ErrForm {
			t.Errorf("row %d: %v, %d", i, l, e)
		}
	}
	texts := []string{"abc", ""}
	for _, p := range []api.Part{{N: -1}, {N: 2}, {N: 0, Low: -1, High: 1}, {N: 0, Low: 2, High: 1}, {N: 0, Low: 0, High: 4}, {N: 1, Low: 0, High: 1}, {N: 0, Low: 4, High: 4}} {
		if x, e := Take(texts, []api.Part{{N: 0, Low: 0, High: 3}, p}); x != "" || e != api.ErrForm {
			t.Errorf("%v: %q, %d", p, x, e)
		}
	}
}

func TestTake(t *testing.T) {
	x, e := Take([]string{"abc", "de"}, []api.Part{{N: 1, Low: 1, High: 2}, {N: 0, Low: 3, High: 3}, {N: 0, Low: 0, High: 2}, {N: 0, Low: 0, High: 2}})
	if x != "eabab" || e != api.OK {
		t.Errorf("%q, %d", x, e)
	}
	if x, e := Take(nil, nil); x != "" || e != api.OK {
		t.Errorf("of nothing: %q, %d", x, e)
	}
}
