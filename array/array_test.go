package array_test

import (
	"math/rand"
	"strings"
	"testing"

	"silo/api"
	. "silo/array"
)

// of is a sector of one letter.
func of(c string) string {
	return strings.Repeat(c, api.Sector)
}

// made is an array.
func made(t *testing.T, disks, sectors int) *Array {
	a, e := New(disks, sectors)
	if a == nil || e != api.OK {
		t.Fatalf("%d disks, %d sectors: %d", disks, sectors, e)
	}
	return a
}

// reads asks for a sector's letter.
func reads(t *testing.T, a *Array, d, s int, c string) {
	t.Helper()
	if x, e := a.Read(d, s); x != of(c) || e != api.OK {
		t.Errorf("disk %d, sector %d: %.3q, %d, not %q", d, s, x, e, c)
	}
}

// want holds errors against each other.
func want(t *testing.T, what string, e, w api.Errno) {
	t.Helper()
	if e != w {
		t.Errorf("%s: %d, not %d", what, e, w)
	}
}

func TestNew(t *testing.T) {
	for _, n := range [][2]int{{0, 1}, {13, 1}, {-1, 1}, {1, 0}, {1, 2049}, {1, -5}} {
		if a, e := New(n[0], n[1]); a != nil || e != api.ErrForm {
			t.Errorf("%v: %d", n, e)
		}
	}
	for _, n := range [][2]int{{1, 1}, {12, 2048}} {
		a := made(t, n[0], n[1])
		if a.Disks() != n[0] || a.Sectors() != n[1] || a.Changes() != 0 || a.Dirty() != 0 {
			t.Errorf("%v: %d, %d, %d, %d", n, a.Disks(), a.Sectors(), a.Changes(), a.Dirty())
		}
		for d := -1; d <= n[0]; d++ {
			if a.Live(d) != (d >= 0 && d < n[0]) {
				t.Errorf("disk %d lives: %v", d, a.Live(d))
			}
		}
		reads(t, a, n[0]-1, n[1]-1, "\x00")
	}
}

func TestWriteReadFlush(t *testing.T) {
	a := made(t, 2, 3)
	want(t, "write", a.Write(1, 2, of("a")), api.OK)
	want(t, "write", a.Write(1, 2, of("b")), api.OK)
	want(t, "write", a.Write(0, 2, of("c")), api.OK)
	reads(t, a, 1, 2, "b")
	if a.Dirty() != 2 || a.Changes() != 3 {
		t.Errorf("%d dirty, %d changes", a.Dirty(), a.Changes())
	}
	want(t, "flush", a.Flush(1), api.OK)
	want(t, "flush of nothing", a.Flush(1), api.OK)
	if a.Dirty() != 1 || a.Changes() != 5 {
		t.Errorf("%d dirty, %d changes", a.Dirty(), a.Changes())
	}
	a.Crash(nil)
	reads(t, a, 1, 2, "b")
	reads(t, a, 0, 2, "\x00")
	if a.Dirty() != 0 || a.Changes() != 5 {
		t.Errorf("%d dirty, %d changes", a.Dirty(), a.Changes())
	}
}

// TestErrorsInOrder: each of no disk, no sector, a text of another length, no power, a lost disk.
func TestErrorsInOrder(t *testing.T) {
	a := made(t, 2, 3)
	a.Lose(1)
	rows := []struct {
		d, s int
		text string
		off  bool
		want api.Errno
	}{
		{2, 0, "", true, api.ErrNone}, {-1, 0, "", false, api.ErrNone}, {0, 3, of("a"), true, api.ErrNone}, {1, -1, of("a"), false, api.ErrNone},
		{0, 0, "a", true, api.ErrForm}, {1, 0, of("a") + "a", false, api.ErrForm}, {1, 0, "", true, api.ErrForm},
		{0, 0, of("a"), true, api.ErrOff}, {1, 0, of("a"), true, api.ErrOff}, {1, 0, of("a"), false, api.ErrLost},
	}
	for i, row := range rows {
		if row.off {
			a.Off(0)
		}
		before := a.Changes()
		want(t, "write", a.Write(row.d, row.s, row.text), row.want)
		read := row.want
		if read == api.ErrForm {
			read = api.ErrLost
			if row.off {
				read = api.ErrOff
			}
		}
		x, e := a.Read(row.d, row.s)
		want(t, "read", e, read)
		flush := read
		if row.d == 0 && row.off || row.d == 1 {
			flush = api.ErrLost
			if row.off {
				flush = api.ErrOff
			}
		}
		want(t, "flush", a.Flush(row.d), flush)
		if x != "" || a.Changes() != before || a.Dirty() != 0 {
			t.Errorf("row %d: something was done", i)
		}
		a.Crash(nil)
	}
	for _, d := range []int{-1, 2} {
		want(t, "lose", a.Lose(d), api.ErrNone)
		want(t, "replace", a.Replace(d), api.ErrNone)
		want(t, "flip", a.Flip(d, -1), api.ErrNone)
	}
	want(t, "flip below", a.Flip(1, -1), api.ErrForm)
	want(t, "flip of a lost one", a.Flip(1, 1), api.ErrLost)
}

func TestOff(t *testing.T) {
	a := made(t, 1, 2)
	a.Off(5)
	a.Off(2) // the last one holds
	want(t, "one", a.Write(0, 0, of("a")), api.OK)
	want(t, "none", a.Write(0, 0, "a"), api.ErrForm)
	want(t, "two", a.Flush(0), api.OK)
	want(t, "three", a.Write(0, 1, of("b")), api.ErrOff)
	a.Off(-1) // it stays off
	a.Off(7)
	want(t, "four", a.Flush(0), api.ErrOff)
	if _, e := a.Read(0, 0); e != api.ErrOff || a.Changes() != 2 || !a.Live(0) {
		t.Errorf("%d, %d changes", e, a.Changes())
	}
	a.Crash(nil)
	reads(t, a, 0, 0, "a")
	for range 20 {
		want(t, "for ever", a.Write(0, 1, of("c")), api.OK)
	}
	a.Off(1)
	a.Off(-3) // never
	for range 20 {
		want(t, "never", a.Flush(0), api.OK)
	}
	a.Off(2)
	want(t, "write", a.Write(0, 1, of("d")), api.OK)
	a.Crash([]int{1}) // what was left of two is gone
	for range 20 {
		want(t, "for ever", a.Write(0, 0, of("e")), api.OK)
	}
	reads(t, a, 0, 1, "d")
	a.Off(0)
	want(t, "at once", a.Flush(0), api.ErrOff)
}

func TestCrashPicks(t *testing.T) {
	rows := []struct {
		picks []int
		kept  string
	}{
		{nil, "....."}, {[]int{1}, "xxxxx"}, {[]int{0}, "....."}, {[]int{1, 0}, "x.x.x"}, {[]int{2, -1, 4}, ".x..x"},
		{[]int{-3, 3, 0, 0, 7, 1, 1}, "xx..x"}, {[]int{-2, 1<<63 - 1, -1 << 63}, ".x..x"},
	}
	for i, row := range rows {
		a := made(t, 3, 4)
		// Written in another order than that of disks and sectors.
		places := [][2]int{{0, 1}, {0, 3}, {1, 0}, {2, 0}, {2, 2}}
		for j := range places {
			p := places[len(places)-1-j]
			a.Write(p[0], p[1], of("x"))
		}
		a.Off(0)
		a.Crash(row.picks)
		if a.Dirty() != 0 {
			t.Errorf("row %d: %d dirty", i, a.Dirty())
		}
		for j, p := range places {
			c := row.kept[j : j+1]
			if c == "." {
				c = "\x00"
			}
			reads(t, a, p[0], p[1], c)
		}
	}
}

func TestLoseAndReplace(t *testing.T) {
	a := made(t, 2, 2)
	a.Write(0, 0, of("a"))
	a.Flush(0)
	a.Write(0, 1, of("b"))
	a.Write(1, 1, of("c"))
	a.Off(0)
	want(t, "lose", a.Lose(0), api.OK)
	want(t, "lose twice", a.Lose(0), api.OK)
	if a.Live(0) || !a.Live(1) || a.Dirty() != 1 || a.Changes() != 4 {
		t.Errorf("lost: %v, %d, %d", a.Live(0), a.Dirty(), a.Changes())
	}
	want(t, "replace", a.Replace(0), api.OK)
	want(t, "replace one that lives", a.Replace(1), api.OK)
	if !a.Live(0) || !a.Live(1) || a.Dirty() != 0 || a.Changes() != 4 {
		t.Errorf("replaced: %d, %d", a.Dirty(), a.Changes())
	}
	a.Crash([]int{1})
	for d := range 2 {
		for s := range 2 {
			reads(t, a, d, s, "\x00")
		}
	}
}

func TestFlip(t *testing.T) {
	a := made(t, 2, 3)
	a.Write(0, 1, of("a"))
	for _, n := range []int{0, 7, 8, 512 + 9, 3*512 - 1, 3 * 512, 3*512*5 + 20, 1<<63 - 1} {
		want(t, "flip", a.Flip(1, n), api.OK)
		m := n % (3 * 512)
		for s := range 3 {
			b := make([]byte, api.Sector)
			if s == m/512 {
				b[m%512/8] = 1 << (m % 8)
			}
			if x, e := a.Read(1, s); x != string(b) || e != api.OK {
				t.Errorf("bit %d, sector %d: %d", n, s, e)
			}
		}
		want(t, "flip back", a.Flip(1, n), api.OK)
	}
	if a.Changes() != 1 {
		t.Errorf("%d changes", a.Changes())
	}
	// What lies in the cache stays; the disk below is turned.
	a.Off(0)
	want(t, "flip below the cache", a.Flip(0, 512), api.OK)
	a.Off(-1)
	a.Crash([]int{0})
	if x, _ := a.Read(0, 1); x != "\x01"+strings.Repeat("\x00", 63) {
		t.Errorf("below the cache: %q", x)
	}
}

// TestUnlikeArrays: what is done to one is not seen in another.
func TestUnlikeArrays(t *testing.T) {
	a, b := made(t, 1, 1), made(t, 1, 1)
	a.Write(0, 0, of("a"))
	a.Off(0)
	reads(t, b, 0, 0, "\x00")
	if b.Changes() != 0 || b.Dirty() != 0 {
		t.Errorf("%d, %d", b.Changes(), b.Dirty())
	}
}

// TestAgainstWords does anything, and holds it against two maps.
func TestAgainstWords(t *testing.T) {
	r := rand.New(rand.NewSource(23))
	type at struct{ d, s int }
	a := made(t, 3, 5)
	kept, cache := map[at]string{}, map[at]string{}
	changes := 0
	for range 5000 {
		p := at{r.Intn(3), r.Intn(5)}
		switch r.Intn(8) {
		case 0, 1, 2:
			x := of(string(rune('a' + r.Intn(26))))
			want(t, "write", a.Write(p.d, p.s, x), api.OK)
			cache[p] = x
			changes++
		case 3:
			want(t, "flush", a.Flush(p.d), api.OK)
			changes++
			for s := range 5 {
				if x, ok := cache[at{p.d, s}]; ok {
					kept[at{p.d, s}] = x
					delete(cache, at{p.d, s})
				}
			}
		case 4:
			l := []int{}
			for range r.Intn(4) {
				l = append(l, r.Intn(2))
			}
			a.Crash(l)
			n := 0
			for i := range 15 {
				q := at{i / 5, i % 5}
				if x, ok := cache[q]; ok {
					if len(l) > 0 && l[n%len(l)] == 1 {
						kept[q] = x
					}
					n++
				}
			}
			clear(cache)
		default:
			x, ok := cache[p]
			if !ok {
				x, ok = kept[p]
			}
			if !ok {
				x = of("\x00")
			}
			if y, e := a.Read(p.d, p.s); y != x || e != api.OK {
				t.Fatalf("%v: %.3q, not %.3q, %d", p, y, x, e)
			}
		}
		if a.Changes() != changes || a.Dirty() != len(cache) {
			t.Fatalf("%d changes, %d dirty", a.Changes(), a.Dirty())
		}
	}
}
