package check_test

import (
	"hash/crc64"
	"math/rand"
	. "silo/check"
	"testing"
)

func text(r *rand.Rand, n int) string {
	b := make([]byte, n)
	r.Read(b)
	return string(b)
}

func TestOf(t *testing.T) {
	if c := Of("123456789"); c != 0x995dc9bbdf1939fa {
		t.Errorf("the example: %#x", c)
	}
	if c := Of(""); c != 0 {
		t.Errorf("of nothing: %#x", c)
	}
	table := crc64.MakeTable(crc64.ECMA)
	r := rand.New(rand.NewSource(20))
	for n := range 300 {
		s := text(r, n)
		if Of(s) != crc64.Checksum([]byte(s), table) {
			t.Fatalf("%d bytes", n)
		}
		cut := r.Intn(n + 1)
		if More(Of(s[:cut]), s[cut:]) != Of(s) {
			t.Fatalf("%d bytes and %d more", cut, n-cut)
		}
		if Both(Of(s[:cut]), Of(s[cut:]), n-cut) != Of(s) {
			t.Fatalf("%d bytes behind %d", n-cut, cut)
		}
	}
}

// through is a behind n bytes 0, bit by bit.
func through(a uint64, n int) uint64 {
	for range 8 * n {
		low := a & 1
		a >>= 1
		if low == 1 {
			a ^= 0xc96c5795d7870f42
		}
	}
	return a
}

func TestBothOfAnyNumbers(t *testing.T) {
	r := rand.New(rand.NewSource(21))
	for n := range 200 {
		a, b := r.Uint64(), r.Uint64()
		if Both(a, b, n) != through(a, n)^b {
			t.Fatalf("%d bytes", n)
		}
		if Both(a, b, -n) != a^b {
			t.Fatalf("%d bytes: not as 0", -n)
		}
	}
	a, b := r.Uint64(), r.Uint64()
	if Both(a, b, -1<<63) != a^b {
		t.Errorf("the least n")
	}
	for _, n := range []int{1 << 20, 1<<62 + 12345} {
		// Two ways, one behind the other, are one of both.
		m := 1<<20 + 77
		if Both(Both(a, 0, n), b, m) != Both(a, b, n+m) {
			t.Errorf("%d bytes", n)
		}
	}
	if Both(a, b, 1<<16) != through(a, 1<<16)^b {
		t.Errorf("many bytes")
	}
	if Both(a, 0, 1<<63-1) == 0 {
		t.Errorf("the greatest n")
	}
}

func TestTurned(t *testing.T) {
	r := rand.New(rand.NewSource(22))
	for range 200 {
		s := text(r, 1+r.Intn(150))
		b := []byte(s)
		b[r.Intn(len(b))] ^= 1 << r.Intn(8)
		if Of(string(b)) == Of(s) {
			t.Fatalf("a turned bit")
		}
		b = []byte(s)
		from := r.Intn(len(b))
		for i := from; i < min(from+8, len(b)); i++ {
			b[i] = byte(r.Intn(256))
		}
		if string(b) != s && Of(string(b)) == Of(s) {
			t.Fatalf("eight bytes from %d on", from)
		}
	}
}
