// Package field: numbers from 0 to 255: see ../../shared/doc/01-field.md.
package field

import "silo/api"

// modulus is the field's polynomial without its highest power, which falls out of a byte by itself.
const modulus = 0x1d

// order is how many numbers but 0 there are: so often 2 is multiplied by itself till it is 1 again.
const order = 255

// double is a times 2. It asks no question, nor does Mul: of bits of any data every other guess is wrong.
func double(a byte) byte {
	return a<<1 ^ a>>7*modulus
}

// powers goes through the numbers but 0, each with how often 2 is multiplied to make it.
func powers(yield func(int, byte) bool) {
	x := byte(1)
	for n := range order {
		if !yield(n, x) {
			return
		}
		x = double(x)
	}
}

// Add adds; it takes away, too.
func Add(a byte, b byte) byte {
	return a ^ b
}

// Mul multiplies.
func Mul(a byte, b byte) byte {
	sum := byte(0)
	for bit := range 8 {
		sum = Add(sum, a*(b>>bit&1))
		a = double(a)
	}
	return sum
}

// raise multiplies a n times by itself; n is not below 0.
func raise(a byte, n int) byte {
	result := byte(1)
	square := a
	for rest := n; rest > 0; rest >>= 1 {
		if rest&1 == 1 {
			result = Mul(result, square)
		}
		square = Mul(square, square)
	}
	return result
}

// Div divides a by b.
func Div(a byte, b byte) (byte, api.Errno) {
	inverse, e := Inv(b)
	if e != api.OK {
		return 0, e
	}
	return Mul(a, inverse), api.OK
}

// Inv is what makes 1 of a.
func Inv(a byte) (byte, api.Errno) {
	if a == 0 {
		return 0, api.ErrForm
	}
	return raise(a, order-1), api.OK
}

// Pow multiplies a n times by itself.
func Pow(a byte, n int) (byte, api.Errno) {
	if n < 0 {
		return 0, api.ErrForm
	}
	return raise(a, n), api.OK
}

// Exp multiplies 2 n times by itself.
func Exp(n int) (byte, api.Errno) {
	if n < 0 {
		return 0, api.ErrForm
	}
	return raise(2, n%order), api.OK
}

// Log is the least n of which Exp is a.
func Log(a byte) (int, api.Errno) {
	if a == 0 {
		return 0, api.ErrForm
	}
	log := 0
search:
	for n, x := range powers {
		if x != a {
			continue search
		}
		log = n
		break search
	}
	return log, api.OK
}
