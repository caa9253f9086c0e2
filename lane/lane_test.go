package lane_test

import (
	"math/rand"
	"strings"
	"testing"

	"silo/api"
	"silo/field"
	. "silo/lane"
)

// some is n bytes picked by r.
func some(r *rand.Rand, n int) string {
	l := make([]byte, n)
	r.Read(l)
	return string(l)
}

func TestByBytes(t *testing.T) {
	r := rand.New(rand.NewSource(2))
	for _, n := range []int{0, 1, 2, 63, 255, api.MaxBytes} {
		a, b := some(r, n), some(r, n)
		for _, c := range []byte{0, 1, 2, 0x80, 255, byte(r.Intn(256))} {
			sum, e := Add(a, b)
			scaled, f := Scale(a, c)
			both, g := MulAdd(a, b, c)
			if e != api.OK || f != api.OK || g != api.OK || len(sum) != n || len(scaled) != n || len(both) != n {
				t.Fatalf("%d bytes: %d, %d, %d", n, e, f, g)
			}
			for i := range n {
				if sum[i] != a[i]^b[i] || scaled[i] != field.Mul(a[i], c) || both[i] != a[i]^field.Mul(b[i], c) {
					t.Fatalf("%d bytes, times %d, at %d", n, c, i)
				}
			}
		}
		once, _ := Add(a, b)
		if twice, e := Add(once, b); twice != a || e != api.OK {
			t.Errorf("added twice: %d", e)
		}
	}
}

func TestScaleOfAllNumbers(t *testing.T) {
	all := make([]byte, 256)
	for i := range all {
		all[i] = byte(i)
	}
	for c := range 256 {
		s, _ := Scale(string(all), byte(c))
		for i := range all {
			if s[i] != field.Mul(byte(i), byte(c)) {
				t.Fatalf("%d times %d: %d", c, i, s[i])
			}
		}
	}
}

func TestErrors(t *testing.T) {
	long := strings.Repeat("x", api.MaxBytes+1)
	type answer struct {
		s string
		e api.Errno
	}
	of := func(s string, e api.Errno) answer { return answer{s, e} }
	rows := []struct {
		name string
		is   answer
		want api.Errno
	}{
		{"add unlike", of(Add("ab", "a")), api.ErrForm},
		{"add long, unlike", of(Add("ab", long)), api.ErrLimit},
		{"add long", of(Add(long, long)), api.ErrLimit},
		{"scale long", of(Scale(long, 0)), api.ErrLimit},
		{"muladd unlike", of(MulAdd("", "a", 0)), api.ErrForm},
		{"muladd long", of(MulAdd(long, "a", 0)), api.ErrLimit},
		{"sum of none", of(Sum(nil)), api.ErrForm},
		{"sum unlike", of(Sum([]string{"a", "b", ""})), api.ErrForm},
		{"sum unlike, then long", of(Sum([]string{"a", "bc", long})), api.ErrLimit},
		{"zero below", of(Zero(-1)), api.ErrForm},
		{"zero above", of(Zero(api.MaxBytes + 1)), api.ErrForm},
	}
	for _, row := range rows {
		if row.is.s != "" || row.is.e != row.want {
			t.Errorf("%s: %d bytes, %d", row.name, len(row.is.s), row.is.e)
		}
	}
}

func TestSumAndZero(t *testing.T) {
	r := rand.New(rand.NewSource(3))
	for n := 1; n < 9; n++ {
		l := []string{}
		want := make([]byte, 77)
		for range n {
			a := some(r, 77)
			l = append(l, a)
			for i := range want {
				want[i] ^= a[i]
			}
		}
		if s, e := Sum(l); s != string(want) || e != api.OK {
			t.Errorf("sum of %d: %d", n, e)
		}
	}
	if s, e := Sum([]string{""}); s != "" || e != api.OK {
		t.Errorf("sum of nothing: %d", e)
	}
	for _, n := range []int{0, 1, api.MaxBytes} {
		if s, e := Zero(n); s != strings.Repeat("\x00", n) || e != api.OK {
			t.Errorf("%d bytes 0: %d, %d", n, len(s), e)
		}
	}
}
