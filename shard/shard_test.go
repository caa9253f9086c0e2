package shard_test

import (
	"hash/crc64"
	"math/rand"
	"slices"
	"strings"
	"testing"

	"silo/api"
	. "silo/shard"
)

func some(r *rand.Rand) api.Shard {
	b := make([]byte, 1+r.Intn(api.MaxSize))
	r.Read(b)
	return api.Shard{Stripe: r.Intn(api.MaxGen + 1), Gen: r.Intn(api.MaxGen + 1), Index: r.Intn(14), Text: string(b)}
}

func TestBytes(t *testing.T) {
	s := api.Shard{Stripe: 0x01020304, Gen: 0x3a0b0c0d, Index: 13, Text: "hello"}
	l, e := Sectors(s)
	want := "SHRD\x01\x02\x03\x04\x3a\x0b\x0c\x0d\x0d\x00\x05hello"
	c := crc64.Checksum([]byte(want), crc64.MakeTable(crc64.ECMA))
	for i := 7; i >= 0; i-- {
		want += string([]byte{byte(c >> (8 * i))})
	}
	want += strings.Repeat("\x00", 64-len(want))
	if len(l) != 1 || l[0] != want || e != api.OK {
		t.Errorf("%q, %d, not %q", l, e, want)
	}
}

func TestTakeAndCount(t *testing.T) {
	r := rand.New(rand.NewSource(25))
	for n := 1; n <= api.MaxSize; n++ {
		s := some(r)
		s.Text = strings.Repeat("\x00", n)
		l, e := Sectors(s)
		many, f := Count(n)
		back, g := Take(l)
		if e != api.OK || f != api.OK || g != api.OK || len(l) != many || many != (23+n+63)/64 || back != s {
			t.Fatalf("%d bytes: %d sectors, %d, %d, %d", n, len(l), e, f, g)
		}
		for _, x := range l {
			if len(x) != api.Sector {
				t.Fatalf("%d bytes: a sector of %d", n, len(x))
			}
		}
		if Class(l, s.Stripe, s.Gen, s.Index) != api.ClassGood {
			t.Fatalf("%d bytes: not good", n)
		}
	}
	for _, n := range []int{0, -1, 121, 1<<63 - 1} {
		if m, e := Count(n); m != 0 || e != api.ErrForm {
			t.Errorf("%d bytes: %d, %d", n, m, e)
		}
	}
}

func TestForm(t *testing.T) {
	good := api.Shard{Stripe: api.MaxGen, Gen: api.MaxGen, Index: 13, Text: "x"}
	if l, e := Sectors(good); len(l) != 1 || e != api.OK {
		t.Errorf("at the limits: %d", e)
	}
	rows := []func(*api.Shard){
		func(s *api.Shard) { s.Stripe = -1 }, func(s *api.Shard) { s.Stripe = api.MaxGen + 1 }, func(s *api.Shard) { s.Gen = -1 }, func(s *api.Shard) { s.Gen = api.MaxGen + 1 },
		func(s *api.Shard) { s.Index = -1 }, func(s *api.Shard) { s.Index = 14 }, func(s *api.Shard) { s.Text = "" }, func(s *api.Shard) { s.Text = strings.Repeat("x", 121) },
	}
	for i, change := range rows {
		s := good
		change(&s)
		if l, e := Sectors(s); len(l) != 0 || e != api.ErrForm {
			t.Errorf("row %d: %d", i, e)
		}
	}
}

func TestBad(t *testing.T) {
	l, _ := Sectors(api.Shard{Stripe: 1, Gen: 2, Index: 3, Text: strings.Repeat("y", 100)})
	zero := strings.Repeat("\x00", api.Sector)
	rows := [][]string{
		nil, {}, {""}, {"SHRD"}, {zero}, {zero, zero}, l[:1], l[1:], {l[1], l[0]}, {l[0], l[1], zero}, {l[0], l[1], ""}, {l[0] + l[1]},
		{l[0], l[1][:63]}, {l[0], l[1] + "\x00"}, {l[0][:10], l[0][10:], l[1]}, {l[0][:63], l[0][63:] + l[1]}, {"", l[0], l[1]}, {strings.Repeat("\xff", 64)}, make([]string, 100),
	}
	for i, row := range rows {
		if s, e := Take(row); s != (api.Shard{}) || e != api.ErrBad {
			t.Errorf("row %d: %v, %d", i, s, e)
		}
	}
	// What no shard may have is refused, also where its check holds.
	for _, head := range []string{"SHRE\x00\x00\x00\x01\x00\x00\x00\x02\x03\x00\x01y", "SHRD\x40\x00\x00\x01\x00\x00\x00\x02\x03\x00\x01y", "SHRD\x00\x00\x00\x01\x80\x00\x00\x02\x03\x00\x01y",
		"SHRD\x00\x00\x00\x01\x00\x00\x00\x02\x0e\x00\x01y", "SHRD\x00\x00\x00\x01\x00\x00\x00\x02\x03\x00\x00"} {
		b := []byte(head)
		c := crc64.Checksum(b, crc64.MakeTable(crc64.ECMA))
		for i := 7; i >= 0; i-- {
			b = append(b, byte(c>>(8*i)))
		}
		b = append(b, make([]byte, 64-len(b))...)
		if s, e := Take([]string{string(b)}); s != (api.Shard{}) || e != api.ErrBad {
			t.Errorf("%q: %d", head, e)
		}
	}
}

func TestTurnedBits(t *testing.T) {
	r := rand.New(rand.NewSource(26))
	for range 30 {
		s := some(r)
		l, _ := Sectors(s)
		for bit := range len(l) * 512 {
			if bit/8 == 13 || bit/8 == 14 {
				continue
			}
			m := slices.Clone(l)
			b := []byte(m[bit/512])
			b[bit%512/8] ^= 1 << (bit % 8)
			m[bit/512] = string(b)
			if x, e := Take(m); x != (api.Shard{}) || e != api.ErrBad {
				t.Fatalf("bit %d: %d", bit, e)
			}
			if c := Class(m, s.Stripe, s.Gen, s.Index); c != api.ClassBad {
				t.Fatalf("bit %d: class %d", bit, c)
			}
		}
	}
}

func TestClass(t *testing.T) {
	l, _ := Sectors(api.Shard{Stripe: 1, Gen: 2, Index: 3, Text: "y"})
	zero := strings.Repeat("\x00", api.Sector)
	rows := []struct {
		l                  []string
		stripe, gen, index int
		want               int
	}{
		{nil, 1, 2, 3, api.ClassMissing}, {[]string{zero}, 1, 2, 3, api.ClassMissing}, {[]string{zero, zero, zero}, 0, 0, 0, api.ClassMissing}, {[]string{"", "\x00"}, 1, 2, 3, api.ClassMissing},
		{l, 1, 2, 3, api.ClassGood}, {l, 0, 2, 3, api.ClassBad}, {l, 1, 3, 3, api.ClassBad}, {l, 1, 2, 2, api.ClassBad}, {l, -1, -1, -1, api.ClassBad},
		{[]string{zero, "x"}, 1, 2, 3, api.ClassBad}, {append(slices.Clone(l), zero), 1, 2, 3, api.ClassBad},
	}
	for i, row := range rows {
		if c := Class(row.l, row.stripe, row.gen, row.index); c != row.want {
			t.Errorf("row %d: %d, not %d", i, c, row.want)
		}
	}
}
