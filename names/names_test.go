package names_test

import (
	"math/rand"
	"regexp"
	"slices"
	"strings"
	"testing"

	"silo/api"
	. "silo/names"
)

// shape is what a name is, by another way.
var shape = regexp.MustCompile(`\A[a-z0-9]+((\.|_|__|-+)[a-z0-9]+)*(/[a-z0-9]+((\.|_|__|-+)[a-z0-9]+)*)*(:[a-zA-Z0-9_][a-zA-Z0-9_.-]*)?\z`)

func name(s string) bool {
	return shape.MatchString(s) && len(s) <= 40
}

// hold asks all calls of a text.
func hold(t *testing.T, s string) {
	t.Helper()
	want := api.OK
	if !name(s) {
		want = api.ErrBad
	}
	path, ver, e := Split(s)
	full, f := Full(s)
	l, g := Parts(s)
	if Check(s) != want || e != want || g != want || f != want && (want != api.OK || f != api.ErrLimit) {
		t.Fatalf("%q: %d, %d, %d, %d, not %d", s, Check(s), e, f, g, want)
	}
	if want != api.OK {
		if path != "" || ver != "" || full != "" || len(l) != 0 {
			t.Fatalf("%q: an answer beside an error", s)
		}
		return
	}
	p, v, has := strings.Cut(s, ":")
	if !has {
		v = "latest"
	}
	if path != p || ver != v || !slices.Equal(l, strings.Split(p, "/")) {
		t.Fatalf("%q: %q, %q, %q", s, path, ver, l)
	}
	if long := len(p)+1+len(v) > 40; long != (f == api.ErrLimit) || long && full != "" || !long && full != p+":"+v {
		t.Fatalf("%q: %q, %d", s, full, f)
	}
	if again, e := Full(full); f == api.OK && (again != full || e != api.OK) {
		t.Fatalf("full of %q: %q, %d", full, again, e)
	}
}

func TestNames(t *testing.T) {
	for _, s := range []string{
		"", "a", "a/b", "a:b", "/", "a/", "/a", "a//b", ":", "a:", ":a", "a:b:c", "a.b", "a..b", "a_b", "a__b", "a___b", "a-b", "a----b", "a-_b", "a._b", "a.-b", "a_.b",
		".a", "a.", "-a", "a-", "_a", "a_", "A", "a/B", "a:B", "a:.b", "a:-b", "a:_b", "a:b.-_", "a:b/c", "a b", "a\x00", "z/a:Z", "a:A", "a:az09AZ", "09az", "a:[", "a:@", "a:`", "a:{", "{", "`", "é", "a:é", "a+b", "a:latest", "0/9:0", "a/b.c__d---e/f:V1.2-x_",
		strings.Repeat("a", 40), strings.Repeat("a", 41), strings.Repeat("a", 33), strings.Repeat("a", 34), strings.Repeat("a", 33) + ":latest", strings.Repeat("a", 34) + ":latest", "a:" + strings.Repeat("b", 38), "a:" + strings.Repeat("b", 39),
	} {
		hold(t, s)
	}
	r := rand.New(rand.NewSource(39))
	names := 0
	for range 60000 {
		b := []byte{}
		for range r.Intn(8) {
			b = append(b, "aaaazz09/:._-A"[r.Intn(14)])
		}
		hold(t, string(b))
		if name(string(b)) {
			names++
		}
	}
	if names < 1000 {
		t.Errorf("names: %d", names)
	}
	if p, v, e := Split("a/b"); p != "a/b" || v != "latest" || e != api.OK {
		t.Errorf("the example: %q, %q, %d", p, v, e)
	}
}

// glob is Glob by another way.
func glob(p, s string) bool {
	x := strings.ReplaceAll(regexp.QuoteMeta(p), `\*\*`, `(?s:.*)`)
	x = strings.ReplaceAll(x, `\*`, `[^/:]*`)
	return regexp.MustCompile(`\A` + x + `\z`).MatchString(s)
}

func TestGlob(t *testing.T) {
	for _, row := range []struct {
		p, s string
		want bool
	}{
		{"", "", true}, {"", "a", false}, {"*", "", true}, {"**", "", true}, {"*", "ab", true}, {"*", "a/b", false}, {"*", "a:b", false}, {"**", "a/b:c", true}, {"***", "a/b", true},
		{"a/*", "a/b", true}, {"a/*", "a/b/c", false}, {"a/**", "a/b/c:d", true}, {"a/*:*", "a/b:c", true}, {"*b*", "abc", true}, {"a*c", "ac", true}, {"**b", "a/b", true}, {"*a", "b", false},
		{"?", "a", false}, {"[a]", "a", false}, {"*:*", "a:b:c", false}, {"*\xff", "\x00\xff", true}, {"****", ":/:", true}, {"*/***", "a/", true},
	} {
		if is, e := Glob(row.p, row.s); is != row.want || e != api.OK {
			t.Errorf("%q, %q: %v, %d", row.p, row.s, is, e)
		}
	}
	r := rand.New(rand.NewSource(40))
	for range 20000 {
		p, s := []byte{}, []byte{}
		for range r.Intn(7) {
			p = append(p, "**ab/:"[r.Intn(6)])
		}
		for range r.Intn(7) {
			s = append(s, "aab/:*"[r.Intn(6)])
		}
		if is, e := Glob(string(p), string(s)); is != glob(string(p), string(s)) || e != api.OK {
			t.Fatalf("%q, %q: %v, %d", p, s, is, e)
		}
	}
	most := strings.Repeat("*a", 20)
	if is, e := Glob(most, strings.Repeat("a", 40)); !is || e != api.OK {
		t.Errorf("the longest: %v, %d", is, e)
	}
	long := strings.Repeat("a", 41)
	for _, row := range [][2]string{{long, ""}, {"", long}, {long, long}} {
		if is, e := Glob(row[0], row[1]); is || e != api.ErrLimit {
			t.Errorf("too long: %v, %d", is, e)
		}
	}
}
