package digest_test

import (
	"math/rand"
	"strings"
	"testing"

	"silo/api"
	. "silo/digest"
)

// text is n bytes by a rule.
func text(n int) string {
	l := make([]byte, n)
	for i := range l {
		l[i] = byte(i*i*7 + i*3 + n)
	}
	return string(l)
}

func TestOf(t *testing.T) {
	rows := []struct {
		n   int
		hex string
	}{
		{0, "69217a3079908094e11121d042354a7c1f55b6482ca1a51e1b250dfd1ed0eef9"},
		{1, "fc87f4f1d721942d282aa61989c069b290d1447d20d4b811430f47ea0edf9991"},
		{3, "8e74266b5459d8e7e2078da7e3790123a4c96fef4a3674a70c3cec872ffc3119"},
		{55, "9f873884f492b8d2174267f95920b190c07953e7317254c27c62f70d275f7b33"},
		{63, "7a5ea32dfeb02987825d76bf912cd54260735bce6795b03a90edbcc93342d275"},
		{64, "487b8e0f010107d7bc9dd126ec68f190958642eba4514a9ba84a3a4a8bc8c6eb"},
		{65, "516d5545ae1c53dd96d3d224e5e90851e9753b5f104f5a51a1238954dcafdd30"},
		{127, "79bc21c8585faf9b7a8bc173c5666500fcd5fc295f0dc19b36a65847ed372afc"},
		{128, "6782e6af0733ad8889e1d7e45c422c98aa56aadcaa36ff7ae19171ad8ddf2803"},
		{129, "e62ce8cf6c9677ea91572baaf1a2014e8d2a3044ceaea9cba46ac63114d2730f"},
		{255, "78db1647bf5c71a5fd7e5986bf908dbe5c1ffc1ec88f0809b6de0fc7b3af7803"},
		{1000, "828a0b1e28a08c7dcde3741e4163cf95040e3cf761987751145ede5690c9e803"},
		{2000, "b510083173b379cb819a25479e63760c5f54c5d3e38696b4b7644104cbb32b76"},
		{8192, "ba5adb1f65717d0f579351e66b5b4652fc234e8ac319672adb3f85214d418288"},
	}
	for _, row := range rows {
		d := Of(text(row.n))
		if h, e := Hex(d); h != row.hex || e != api.OK || len(d) != 32 {
			t.Errorf("%d bytes: %s", row.n, h)
		}
	}
	if h, _ := Hex(Of("abc")); h != "508c5e8c327c14e2e1a72ba34eeb452f37458b209ed63a294d999b4c86675982" {
		t.Errorf("abc: %s", h)
	}
}

func TestRows(t *testing.T) {
	for n, want := range map[int]int{0: 1, 1: 1, 63: 1, 64: 1, 65: 2, 128: 2, 129: 3, 8192: 128} {
		if is := Rows(text(n)); is != want {
			t.Errorf("%d bytes: %d, not %d", n, is, want)
		}
	}
}

func TestHexAndTake(t *testing.T) {
	all := []byte{}
	for i := range 256 {
		all = append(all, byte(i))
	}
	for low := 0; low < 256; low += 32 {
		d := string(all[low : low+32])
		h, e := Hex(d)
		back, f := Take(h)
		if len(h) != 64 || back != d || e != api.OK || f != api.OK {
			t.Errorf("from %d: %s, %d, %d", low, h, e, f)
		}
		if strings.Trim(h, "0123456789abcdef") != "" {
			t.Errorf("letters: %s", h)
		}
	}
	if h, _ := Hex(string(all[0x8f:0xaf])); !strings.HasPrefix(h, "8f9091") {
		t.Errorf("order: %s", h)
	}
	for _, n := range []int{0, 31, 33, 64} {
		if h, e := Hex(text(n)); h != "" || e != api.ErrForm {
			t.Errorf("hex of %d: %d", n, e)
		}
	}
	good, _ := Hex(Of(""))
	for _, s := range []string{"", good[1:], good + "0", "A" + good[1:], good[:63] + "g", good[:63] + "/", good[:63] + ":", good[:63] + "`", " " + good[1:], strings.Repeat("é", 32)} {
		if d, e := Take(s); d != "" || e != api.ErrBad {
			t.Errorf("take %q: %d", s, e)
		}
	}
}

func TestFed(t *testing.T) {
	r := rand.New(rand.NewSource(16))
	for range 300 {
		all := text(r.Intn(400))
		h := New()
		fed := 0
		for fed < len(all) {
			n := min(len(all)-fed, []int{0, 1, 3, 63, 64, 65, 128, 200}[r.Intn(8)])
			h.Write(all[fed : fed+n])
			fed += n
			if h.Sum() != Of(all[:fed]) || h.Len() != fed {
				t.Fatalf("%d of %d bytes: %d", fed, len(all), h.Len())
			}
		}
	}
	h, other := New(), New()
	other.Write("x")
	if h.Sum() != Of("") || h.Len() != 0 {
		t.Errorf("of nothing: %d", h.Len())
	}
	h.Write("")
	if h.Sum() != Of("") || h.Len() != 0 {
		t.Errorf("of nothing twice: %d", h.Len())
	}
}
