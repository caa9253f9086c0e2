package record_test

import (
	"hash/crc64"
	"math/rand"
	"slices"
	"strings"
	"testing"

	"silo/api"
	. "silo/record"
)

// same holds two records against each other: a nil list is as an empty one.
func same(a, b api.Record) bool {
	return a.Kind == b.Kind && a.ID == b.ID && a.Name == b.Name && a.Digest == b.Digest && slices.Equal(a.List, b.List) && slices.Equal(a.Slots, b.Slots)
}

func none(r api.Record) bool {
	return same(r, api.Record{})
}

func text(r *rand.Rand, n int) string {
	b := make([]byte, n)
	r.Read(b)
	return string(b)
}

func list(r *rand.Rand, n int) []int {
	l := []int{}
	for range n {
		l = append(l, r.Intn(api.MaxGen+1))
	}
	return l
}

func places1(r *rand.Rand) []api.Slot {
	l := []api.Slot{}
	for range 1 + r.Intn(14) {
		l = append(l, api.Slot{Disk: r.Intn(13) - 1, At: r.Intn(64)})
	}
	return l
}

// some is a record of a kind.
func some(r *rand.Rand, kind int) api.Record {
	x := api.Record{Kind: kind}
	switch kind {
	case api.RecPrepare:
		x.ID, x.Slots = r.Intn(api.MaxGen+1), places1(r)
	case api.RecCommit:
		x.ID, x.List, x.Slots = r.Intn(api.MaxGen+1), list(r, 2), places1(r)
	case api.RecFree:
		x.ID = r.Intn(api.MaxGen + 1)
	case api.RecBlob, api.RecManifest:
		x.ID, x.Digest, x.List = r.Intn(api.MaxGen+1), text(r, 32), list(r, r.Intn(9))
	case api.RecDrop:
		x.Digest = text(r, 32)
	case api.RecTag:
		x.Name, x.Digest = text(r, 1+r.Intn(api.MaxName)), text(r, 32)
	case api.RecUntag:
		x.Name = text(r, 1+r.Intn(api.MaxName))
	}
	return x
}

func TestBytesByTheWords(t *testing.T) {
	d := strings.Repeat("d", 32)
	slots := []api.Slot{{Disk: -1, At: 0}, {Disk: 11, At: 63}}
	of := "\x02\xff\xff\xff\xff\x00\x00\x00\x00\x00\x00\x00\x0b\x00\x00\x00\x3f"
	rows := []struct {
		r    api.Record
		want string
	}{
		{api.Record{Kind: 1, ID: 0x01020304, Slots: slots}, "\x01\x01\x02\x03\x04" + of},
		{api.Record{Kind: 2, ID: 5, List: []int{0x10203, 1}, Slots: slots}, "\x02\x00\x00\x00\x05\x00\x00\x00\x02\x00\x01\x02\x03\x00\x00\x00\x01" + of},
		{api.Record{Kind: 2, List: []int{0, api.MaxGen}, Slots: slots[:1]}, "\x02\x00\x00\x00\x00\x00\x00\x00\x02\x00\x00\x00\x00\x40\x00\x00\x00\x01" + of[1:9]},
		{api.Record{Kind: 3, ID: api.MaxGen}, "\x03\x40\x00\x00\x00"},
		{api.Record{Kind: 4, ID: 6, Digest: d, List: []int{7}}, "\x04\x00\x00\x00\x06" + d + "\x00\x00\x00\x01\x00\x00\x00\x07"},
		{api.Record{Kind: 5, Digest: d}, "\x05\x00\x00\x00\x00" + d + "\x00\x00\x00\x00"},
		{api.Record{Kind: 6, Digest: d}, "\x06" + d},
		{api.Record{Kind: 7, Name: "a/b", Digest: d}, "\x07\x03a/b" + d},
		{api.Record{Kind: 8, Name: "\x00"}, "\x08\x01\x00"},
	}
	for i, row := range rows {
		s, e := Bytes(row.r)
		r, f := Take(row.want)
		if s != row.want || e != api.OK || !same(r, row.r) || f != api.OK || Check(row.r) != api.OK {
			t.Errorf("row %d: %q, %d, %v, %d", i, s, e, r, f)
		}
	}
}

func TestUndo(t *testing.T) {
	r := rand.New(rand.NewSource(27))
	for kind := api.RecPrepare; kind <= api.RecUntag; kind++ {
		for range 50 {
			x := some(r, kind)
			s, e := Bytes(x)
			y, f := Take(s)
			if e != api.OK || f != api.OK || !same(x, y) {
				t.Fatalf("%v: %v, %d, %d", x, y, e, f)
			}
			for cut := range len(s) {
				if y, e := Take(s[:cut]); !none(y) || e != api.ErrBad {
					t.Fatalf("%d of %d bytes of kind %d: %d", cut, len(s), kind, e)
				}
			}
			if y, e := Take(s + "\x00"); !none(y) || e != api.ErrBad {
				t.Fatalf("a byte more: %d", e)
			}
		}
	}
	most := some(r, api.RecBlob)
	most.List = list(r, api.MaxBlob)
	s, e := Bytes(most)
	if y, f := Take(s); !same(y, most) || e != api.OK || f != api.OK {
		t.Errorf("the longest list: %d, %d", e, f)
	}
}

func TestForm(t *testing.T) {
	d := strings.Repeat("d", 32)
	one := []api.Slot{{Disk: 0, At: 0}}
	rows := []api.Record{
		{}, {Kind: 9}, {Kind: -1}, {Kind: 257, ID: 1, Slots: one},
		{Kind: 1, ID: -1, Slots: one}, {Kind: 1, ID: api.MaxGen + 1, Slots: one}, {Kind: 1, ID: 1}, {Kind: 1, Slots: make([]api.Slot, 15)},
		{Kind: 1, Slots: []api.Slot{{Disk: -2}}}, {Kind: 1, Slots: []api.Slot{{Disk: 12}}}, {Kind: 1, Slots: []api.Slot{{At: 64}}}, {Kind: 1, Slots: []api.Slot{{At: -1}}},
		{Kind: 1, Slots: one, Name: "x"}, {Kind: 1, Slots: one, Digest: d}, {Kind: 1, Slots: one, List: []int{1}},
		{Kind: 2, Slots: one}, {Kind: 2, Slots: one, List: []int{1}}, {Kind: 2, Slots: one, List: []int{1, 2, 3}}, {Kind: 2, List: []int{1, 2}}, {Kind: 2, Slots: one, List: []int{1, -1}}, {Kind: 2, Slots: one, List: []int{api.MaxGen + 1, 0}},
		{Kind: 3, ID: 1, Slots: one}, {Kind: 3, ID: 1, List: []int{0}}, {Kind: 3, ID: -1},
		{Kind: 4, Digest: d[1:]}, {Kind: 4, Digest: d + "d"}, {Kind: 4, Digest: d, List: make([]int, api.MaxBlob+1)}, {Kind: 4, Digest: d, Slots: one}, {Kind: 4, Digest: d, Name: "x"}, {Kind: 5},
		{Kind: 6}, {Kind: 6, Digest: d, ID: 1}, {Kind: 6, Digest: d, Name: "x"},
		{Kind: 7, Digest: d}, {Kind: 7, Name: "x"}, {Kind: 7, Name: strings.Repeat("x", 41), Digest: d}, {Kind: 7, Name: "x", Digest: d, ID: 1},
		{Kind: 8}, {Kind: 8, Name: strings.Repeat("x", 41)}, {Kind: 8, Name: "x", Digest: d}, {Kind: 8, Name: "x", List: []int{0}},
	}
	for i, r := range rows {
		s, e := Bytes(r)
		f, g := Frame(r, 1)
		if Check(r) != api.ErrForm || s != "" || e != api.ErrForm || f != "" || g != api.ErrForm {
			t.Errorf("row %d: %d, %d, %d", i, Check(r), e, g)
		}
	}
	if Check(api.Record{Kind: 8, Name: "x", List: []int{}, Slots: []api.Slot{}}) != api.OK {
		t.Errorf("empty lists are as none")
	}
}

func TestTakeBad(t *testing.T) {
	rows := []string{
		"", "\x00", "\x09", "\x03\x40\x00\x00\x01", "\x03\xff\xff\xff\xff", "\x08\x00", "\x08\x29" + strings.Repeat("x", 41), "\x01\x00\x00\x00\x00\x00",
		"\x01\x00\x00\x00\x00\x01\xff\xff\xff\xfe\x00\x00\x00\x00", "\x01\x00\x00\x00\x00\x01\x00\x00\x00\x00\xff\xff\xff\xff", "\x01\x00\x00\x00\x00\x01\x00\x00\x00\x0c\x00\x00\x00\x00",
		"\x04\x00\x00\x00\x00" + strings.Repeat("d", 32) + "\xff\xff\xff\xff", "\x04\x00\x00\x00\x00" + strings.Repeat("d", 32) + "\x00\x00\x00\x01\xff\xff\xff\xff",
	}
	for _, s := range rows {
		if r, e := Take(s); !none(r) || e != api.ErrBad {
			t.Errorf("%q: %d", s, e)
		}
	}
}

func TestFrame(t *testing.T) {
	x := api.Record{Kind: 8, Name: "ab"}
	want := "\x00\x00\x04\x01\x02\x03\x04\x08\x02ab"
	c := crc64.Checksum([]byte(want), crc64.MakeTable(crc64.ECMA))
	for i := 7; i >= 0; i-- {
		want += string([]byte{byte(c >> (8 * i))})
	}
	if f, e := Frame(x, 0x01020304); f != want || e != api.OK {
		t.Errorf("%q, %d", f, e)
	}
	for n, e := range map[int]api.Errno{-1: api.ErrForm, 0: api.OK, api.MaxGen: api.OK, api.MaxGen + 1: api.ErrForm} {
		if f, g := Frame(x, n); g != e || (f == "") != (e != api.OK) {
			t.Errorf("%d: %d", n, g)
		}
	}
}

func TestFrames(t *testing.T) {
	r := rand.New(rand.NewSource(28))
	for range 100 {
		from := r.Intn(1000)
		all, ends, records := "", []int{0}, []api.Record{}
		for i := range r.Intn(6) {
			x := some(r, 1+r.Intn(8))
			f, _ := Frame(x, from+i)
			all += f
			ends, records = append(ends, len(all)), append(records, x)
		}
		cut := r.Intn(len(all) + 1)
		tails := []string{"", text(r, r.Intn(30)), strings.Repeat("\x00", 40)}
		if len(records) > 0 {
			twice, _ := Frame(records[0], from+len(records)-1)
			far, _ := Frame(records[0], from+len(records)+1)
			tails = append(tails, twice, far)
		}
		for _, tail := range tails {
			for _, s := range []string{all + tail, all[:cut]} {
				want := 0
				for want+1 < len(ends) && ends[want+1] <= len(s) {
					want++
				}
				first := 0
				if want > 0 {
					first = from
				}
				l, n, bytes := Frames(s)
				if !slices.EqualFunc(l, records[:want], same) || n != first || bytes != ends[want] {
					t.Fatalf("%d records, from %d, %d bytes; not %d, %d, %d", len(l), n, bytes, want, first, ends[want])
				}
			}
		}
	}
}

func TestFramesTurned(t *testing.T) {
	a, _ := Frame(api.Record{Kind: 3, ID: 1}, 5)
	b, _ := Frame(api.Record{Kind: 3, ID: 2}, 6)
	for bit := range 8 * len(b) {
		s := []byte(a + b)
		s[len(a)+bit/8] ^= 1 << (bit % 8)
		if l, first, bytes := Frames(string(s)); len(l) != 1 || first != 5 || bytes != len(a) {
			t.Fatalf("bit %d: %d records, %d, %d", bit, len(l), first, bytes)
		}
	}
	if l, first, bytes := Frames(""); len(l) != 0 || first != 0 || bytes != 0 {
		t.Errorf("of nothing: %d, %d, %d", len(l), first, bytes)
	}
	// A number beyond all is no frame's, and none comes behind the last one.
	over := []byte("\x00\x00\x05\x40\x00\x00\x01\x03\x00\x00\x00\x01")
	c := crc64.Checksum(over, crc64.MakeTable(crc64.ECMA))
	for i := 7; i >= 0; i-- {
		over = append(over, byte(c>>(8*i)))
	}
	last, _ := Frame(api.Record{Kind: 3, ID: 1}, api.MaxGen)
	if l, first, bytes := Frames(string(over)); len(l) != 0 || first != 0 || bytes != 0 {
		t.Errorf("beyond all: %d, %d, %d", len(l), first, bytes)
	}
	if l, first, _ := Frames(last + string(over)); len(l) != 1 || first != api.MaxGen {
		t.Errorf("behind the last one: %d, %d", len(l), first)
	}
}
