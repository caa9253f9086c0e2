package reach_test

import (
	"math/rand"
	"slices"
	"strings"
	"testing"

	"silo/api"
	"silo/manifest"
	. "silo/reach"
)

func dig(c byte) string {
	return strings.Repeat(string([]byte{c}), 32)
}

// digs is the digests of a text's letters.
func digs(s string) []string {
	l := []string{}
	for i := range len(s) {
		l = append(l, dig(s[i]))
	}
	return l
}

// letters undoes digs.
func letters(l []string) string {
	s := ""
	for _, d := range l {
		s += d[:1]
	}
	return s
}

// of makes things: "a" is a blob, "b:xy/z" a manifest that names blobs x and y, and z as another manifest.
func of(t *testing.T, rows ...string) []api.Thing {
	t.Helper()
	l := []api.Thing{}
	for _, row := range rows {
		x := api.Thing{Digest: dig(row[0]), Text: "text"}
		if _, named, ok := strings.Cut(row, ":"); ok {
			blobs, subs, _ := strings.Cut(named, "/")
			b, e := manifest.Bytes(api.Manifest{Blobs: digs(blobs), Subs: digs(subs)})
			if e != api.OK {
				t.Fatalf("%q: %d", row, e)
			}
			x.Text, x.Manifest = b, true
		}
		l = append(l, x)
	}
	return l
}

func TestFromUsersOrder(t *testing.T) {
	rows := []struct {
		l           []string
		roots, from string
		named       byte
		users       string
		order       string
		e           api.Errno
	}{
		{nil, "ab", "", 'a', "", "", api.OK},
		{[]string{"a", "b"}, "", "", 'a', "", "ab", api.OK},
		{[]string{"a", "b"}, "bbx", "b", 'b', "", "ab", api.OK},
		{[]string{"a:b", "b", "c:/a", "d:b"}, "c", "abc", 'b', "ad", "bacd", api.OK},
		{[]string{"a:xz", "b:/a", "c:/b", "z"}, "b", "abz", 'x', "a", "zabc", api.OK},
		{[]string{"a:/b", "b:/a", "c"}, "a", "ab", 'a', "b", "", api.ErrBad},
		{[]string{"a:/a"}, "a", "a", 'a', "a", "", api.ErrBad},
		{[]string{"a:c", "b:c/d", "c", "d"}, "ab", "abcd", 'c', "ab", "cadb", api.OK},
		{[]string{"a:d", "b:/d", "d"}, "b", "bd", 'd', "ab", "dab", api.OK},
		{[]string{"a:d/d", "d"}, "a", "ad", 'd', "a", "da", api.OK},
	}
	for i, row := range rows {
		l := of(t, row.l...)
		from, e := From(l, digs(row.roots))
		users, f := Users(l, dig(row.named))
		order, g := Order(l)
		if letters(from) != row.from || letters(users) != row.users || letters(order) != row.order || e != api.OK || f != api.OK || g != row.e {
			t.Errorf("row %d: %q, %q, %q, %d, %d, %d", i, letters(from), letters(users), letters(order), e, f, g)
		}
	}
	l := of(t, "a:b", "b")
	if from, e := From(l, []string{"", "a", dig('b') + "b"}); len(from) != 0 || e != api.OK {
		t.Errorf("roots of any length: %v, %d", from, e)
	}
	// A blob names nothing, whatever its text is.
	l = of(t, "a:b", "b", "c:/a")
	l[0].Manifest = false
	from, e := From(l, digs("a"))
	users, f := Users(l, dig('b'))
	order, g := Order(l)
	if letters(from) != "a" || len(users) != 0 || letters(order) != "abc" || e != api.OK || f != api.OK || g != api.OK {
		t.Errorf("a blob with a manifest's bytes: %q, %q, %q", letters(from), letters(users), letters(order))
	}
	if users, e := Users(l, ""); len(users) != 0 || e != api.OK {
		t.Errorf("users of nothing: %v, %d", users, e)
	}
}

// TestFromGrows: more roots reach more, and what was reached reaches no more.
func TestFromGrows(t *testing.T) {
	r := rand.New(rand.NewSource(42))
	all := "abcdefghijklmnop"
	for range 300 {
		rows := []string{}
		for i := range len(all) {
			if r.Intn(4) == 0 {
				continue
			}
			row := all[i : i+1]
			if r.Intn(3) > 0 {
				row += ":"
				for k := range 2 {
					for j := range len(all) {
						if r.Intn(8) == 0 {
							row += all[j : j+1]
						}
					}
					if k == 0 {
						row += "/"
					}
				}
			}
			rows = append(rows, row)
		}
		l := of(t, rows...)
		few := digs("ab"[:r.Intn(3)])
		more := append(slices.Clone(few), digs(all[r.Intn(16):])...)
		x, e := From(l, few)
		y, f := From(l, more)
		z, g := From(l, x)
		if e != api.OK || f != api.OK || g != api.OK || !slices.IsSorted(x) || len(slices.Compact(slices.Clone(x))) != len(x) || !slices.Equal(x, z) {
			t.Fatalf("%v: %q, %q", rows, letters(x), letters(z))
		}
		for _, d := range x {
			if !slices.Contains(y, d) {
				t.Fatalf("%v: %q, %q", rows, letters(x), letters(y))
			}
		}
		order, e := Order(l)
		if e != api.OK {
			if e != api.ErrBad || len(order) != 0 {
				t.Fatalf("%v: %d", rows, e)
			}
			continue
		}
		for _, x := range l {
			users, _ := Users(l, x.Digest)
			for _, u := range users {
				if slices.Index(order, u) <= slices.Index(order, x.Digest) {
					t.Fatalf("%v: %q", rows, letters(order))
				}
			}
		}
		if len(order) != len(l) {
			t.Fatalf("%v: %q", rows, letters(order))
		}
	}
}

func TestForm(t *testing.T) {
	many := []api.Thing{}
	for i := range 61 {
		many = append(many, api.Thing{Digest: dig(byte(i + 1))})
	}
	if Check(many[:60]) != api.OK || Check(nil) != api.OK || Check([]api.Thing{{Digest: dig(0), Text: strings.Repeat("x", 2000)}}) != api.OK {
		t.Errorf("good ones may be")
	}
	for i, l := range [][]api.Thing{
		many, {{Digest: ""}}, {{Digest: dig('a')[1:]}}, {{Digest: dig('a')}, {Digest: dig('a')}}, {{Digest: dig('b')}, {Digest: dig('a')}},
		{{Digest: dig('a'), Text: strings.Repeat("x", 2001)}}, {{Digest: dig('a'), Manifest: true}}, {{Digest: dig('a'), Text: "MANF\x00\x00", Manifest: true}},
	} {
		from, e := From(l, []string{dig('a')})
		users, f := Users(l, dig('a'))
		order, g := Order(l)
		if Check(l) != api.ErrForm || e != api.ErrForm || f != api.ErrForm || g != api.ErrForm || len(from)+len(users)+len(order) != 0 {
			t.Errorf("row %d: %d, %d, %d, %d", i, Check(l), e, f, g)
		}
	}
}
