package field_test

import (
	"testing"

	"silo/api"
	. "silo/field"
)

// times is Mul by the words: the product of polynomials, and its rest.
func times(a, b byte) byte {
	n := 0
	for i := range 8 {
		if b>>i&1 == 1 {
			n ^= int(a) << i
		}
	}
	for i := 15; i >= 8; i-- {
		if n>>i&1 == 1 {
			n ^= 0x11d << (i - 8)
		}
	}
	return byte(n)
}

func TestAddAndMulOfAll(t *testing.T) {
	for a := range 256 {
		for b := range 256 {
			x, y := byte(a), byte(b)
			if Add(x, y) != x^y || Mul(x, y) != times(x, y) {
				t.Fatalf("%d, %d: %d, %d", a, b, Add(x, y), Mul(x, y))
			}
		}
	}
	if Mul(2, 0x80) != 0x1d {
		t.Errorf("the example: %#x", Mul(2, 0x80))
	}
}

func TestDivAndInv(t *testing.T) {
	for a := range 256 {
		x := byte(a)
		if q, e := Div(x, 0); q != 0 || e != api.ErrForm {
			t.Fatalf("%d by 0: %d, %d", a, q, e)
		}
		i, e := Inv(x)
		if a == 0 && (i != 0 || e != api.ErrForm) || a > 0 && (times(i, x) != 1 || e != api.OK) {
			t.Fatalf("inverse of %d: %d, %d", a, i, e)
		}
		for b := 1; b < 256; b++ {
			if q, e := Div(x, byte(b)); times(q, byte(b)) != x || e != api.OK {
				t.Fatalf("%d by %d: %d, %d", a, b, q, e)
			}
		}
	}
}

func TestPowAndExp(t *testing.T) {
	for a := range 256 {
		x := byte(1)
		for n := range 520 {
			if y, e := Pow(byte(a), n); y != x || e != api.OK {
				t.Fatalf("%d, %d times: %d, %d", a, n, y, e)
			}
			if y, e := Exp(n); a == 2 && (y != x || e != api.OK) {
				t.Fatalf("2, %d times: %d, %d", n, y, e)
			}
			x = times(x, byte(a))
		}
	}
	for _, n := range []int{-1, -255, -1 << 63} {
		if x, e := Pow(3, n); x != 0 || e != api.ErrForm {
			t.Errorf("Pow of %d: %d, %d", n, x, e)
		}
		if x, e := Exp(n); x != 0 || e != api.ErrForm {
			t.Errorf("Exp of %d: %d, %d", n, x, e)
		}
	}
	most := 1<<63 - 1
	if x, e := Pow(0, most); x != 0 || e != api.OK {
		t.Errorf("0: %d, %d", x, e)
	}
	want := byte(1)
	for range most % 255 {
		want = times(want, 2)
	}
	if x, e := Pow(2, most); x != want || e != api.OK {
		t.Errorf("the greatest n: %d", x)
	}
	if x, e := Exp(most); x != want || e != api.OK {
		t.Errorf("Exp of the greatest n: %d", x)
	}
}

func TestLog(t *testing.T) {
	if n, e := Log(0); n != 0 || e != api.ErrForm {
		t.Errorf("of 0: %d, %d", n, e)
	}
	x := byte(1)
	for n := range 255 {
		if m, e := Log(x); m != n || e != api.OK {
			t.Fatalf("of %d: %d, %d", x, m, e)
		}
		x = times(x, 2)
	}
}

func TestFieldLaws(t *testing.T) {
	for a := 0; a < 256; a += 3 {
		for b := range 256 {
			for c := 0; c < 256; c += 5 {
				x, y, z := byte(a), byte(b), byte(c)
				if Mul(Mul(x, y), z) != Mul(x, Mul(y, z)) || Mul(x, Add(y, z)) != Add(Mul(x, y), Mul(x, z)) {
					t.Fatalf("%d, %d, %d", a, b, c)
				}
			}
		}
	}
}
