package manifest_test

import (
	"math/rand"
	"slices"
	"strings"
	"testing"

	"silo/api"
	"silo/digest"
	. "silo/manifest"
)

func dig(c byte) string {
	return strings.Repeat(string([]byte{c}), 32)
}

// row is n digests from one letter on, rising.
func row(c byte, n int) []string {
	l := []string{}
	for i := range n {
		l = append(l, dig(c+byte(i)))
	}
	return l
}

func same(a, b api.Manifest) bool {
	return a.Kind == b.Kind && slices.Equal(a.Blobs, b.Blobs) && slices.Equal(a.Subs, b.Subs)
}

func none(m api.Manifest) bool {
	return same(m, api.Manifest{})
}

func TestBytes(t *testing.T) {
	rows := []struct {
		m    api.Manifest
		want string
	}{
		{api.Manifest{}, "MANF\x00\x00\x00"},
		{api.Manifest{Kind: 255, Blobs: []string{dig('a'), dig('b')}, Subs: []string{dig('a')}}, "MANF\xff\x02\x01" + dig('a') + dig('b') + dig('a')},
		{api.Manifest{Kind: 1, Subs: row(200, 20)}, "MANF\x01\x00\x14" + strings.Join(row(200, 20), "")},
		{api.Manifest{Kind: 7, Blobs: row(0, 13), Subs: row(5, 7)}, "MANF\x07\x0d\x07" + strings.Join(row(0, 13), "") + strings.Join(row(5, 7), "")},
	}
	for i, row := range rows {
		b, e := Bytes(row.m)
		m, f := Take(row.want)
		n, g := Name(row.m)
		if b != row.want || e != api.OK || !same(m, row.m) || f != api.OK || n != digest.Of(row.want) || g != api.OK || Check(row.m) != api.OK {
			t.Errorf("row %d: %q, %d, %d, %d", i, b, e, f, g)
		}
		for cut := range len(row.want) {
			if m, e := Take(row.want[:cut]); !none(m) || e != api.ErrBad {
				t.Errorf("row %d, %d bytes: %d", i, cut, e)
			}
		}
	}
}

func TestMisfits(t *testing.T) {
	for i, m := range []api.Manifest{
		{Kind: -1}, {Kind: 256}, {Blobs: []string{""}}, {Blobs: []string{dig('a')[1:]}}, {Subs: []string{dig('a') + "a"}}, {Blobs: []string{dig('b'), dig('a')}}, {Subs: []string{dig('a'), dig('a')}},
		{Blobs: row(0, 21)}, {Blobs: row(0, 11), Subs: row(0, 10)},
	} {
		b, e := Bytes(m)
		n, f := Name(m)
		if Check(m) != api.ErrForm || b != "" || e != api.ErrForm || n != "" || f != api.ErrForm {
			t.Errorf("row %d: %d, %d, %d", i, Check(m), e, f)
		}
	}
	for i, s := range []string{
		"", "MANF", "MANE\x00\x00\x00", "manf\x00\x00\x00", "MANF\x00\x00\x00\x00", "MANF\x00\x01\x00", "MANF\x00\x00\x00" + dig('a'), "MANF\x00\x01\x01" + dig('a'), "MANF\x00\x01\x00" + dig('a') + "a",
		"MANF\x00\x02\x00" + dig('b') + dig('a'), "MANF\x00\x00\x02" + dig('a') + dig('a'), "MANF\x00\x15\x00" + strings.Join(row(0, 21), ""), "MANF\x00\x02\x00" + dig('a'), "MANF\x00\x00\x02" + dig('a') + dig('b')[1:],
	} {
		if m, e := Take(s); !none(m) || e != api.ErrBad {
			t.Errorf("text %d: %d", i, e)
		}
	}
}

func TestSorted(t *testing.T) {
	r := rand.New(rand.NewSource(41))
	m := api.Manifest{Kind: 3, Blobs: append(row(9, 12), row(9, 12)...), Subs: append(row(1, 8), row(4, 3)...)}
	r.Shuffle(len(m.Blobs), func(i, j int) { m.Blobs[i], m.Blobs[j] = m.Blobs[j], m.Blobs[i] })
	r.Shuffle(len(m.Subs), func(i, j int) { m.Subs[i], m.Subs[j] = m.Subs[j], m.Subs[i] })
	before := slices.Clone(m.Blobs)
	n, e := Sorted(m)
	if want := (api.Manifest{Kind: 3, Blobs: row(9, 12), Subs: row(1, 8)}); !same(n, want) || e != api.OK || !slices.Equal(before, m.Blobs) {
		t.Errorf("%v, %d", n, e)
	}
	if again, e := Sorted(n); !same(again, n) || e != api.OK {
		t.Errorf("twice: %d", e)
	}
	rows := []struct {
		m api.Manifest
		e api.Errno
	}{
		{api.Manifest{}, api.OK}, {api.Manifest{Kind: 256}, api.ErrForm}, {api.Manifest{Kind: -1, Blobs: row(0, 21)}, api.ErrForm}, {api.Manifest{Blobs: append(row(0, 30), "x")}, api.ErrForm}, {api.Manifest{Subs: []string{""}}, api.ErrForm},
		{api.Manifest{Blobs: row(0, 21)}, api.ErrLimit}, {api.Manifest{Blobs: row(0, 10), Subs: row(0, 11)}, api.ErrLimit}, {api.Manifest{Blobs: row(0, 10), Subs: row(0, 10)}, api.OK},
	}
	for i, row := range rows {
		if n, e := Sorted(row.m); e != row.e || e == api.OK && !same(n, row.m) || e != api.OK && !none(n) {
			t.Errorf("row %d: %d", i, e)
		}
	}
}
