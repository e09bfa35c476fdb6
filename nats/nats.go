// Package nats calculates with natural numbers of up to 64 bytes, which are their digits to the base 256, the most significant one first.
package nats

import (
	"bytes"
	"math/bits"

	"vidimus/api"
)

// maxDecimals is the number of decimal digits of the largest valid number, 2^512 - 1.
const maxDecimals = 155

// Check returns the error of a number.
func Check(n []byte) api.Errno {
	if len(n) > api.MaxNat {
		return api.ErrLimit
	}
	if len(n) > 0 && n[0] == 0 {
		return api.ErrValue
	}
	return api.OK
}

// Of returns a number.
func Of(n uint64) []byte {
	var digits [8]byte
	for i := range digits {
		digits[i] = byte(n >> (56 - 8*i))
	}
	return cut(digits[:])
}

// Uint returns the value of a number.
func Uint(n []byte) (uint64, api.Errno) {
	if e := Check(n); e != api.OK {
		return 0, e
	}
	if len(n) > 8 {
		return 0, api.ErrLimit
	}
	var v uint64
	for _, d := range n {
		v = v<<8 | uint64(d)
	}
	return v, api.OK
}

// Compare compares two numbers, which may have leading zero bytes and any length.
func Compare(a, b []byte) int {
	a, b = cut(a), cut(b)
	if len(a) < len(b) {
		return -1
	}
	if len(a) > len(b) {
		return 1
	}
	return bytes.Compare(a, b)
}

// Add returns the sum of two numbers.
func Add(a, b []byte) ([]byte, api.Errno) {
	if e := checkBoth(a, b); e != api.OK {
		return nil, e
	}
	return accumulate(func(add func(place int, v uint)) {
		for i := range a {
			add(i, digit(a, i))
		}
		for i := range b {
			add(i, digit(b, i))
		}
	})
}

// Sub returns the difference of two numbers.
func Sub(a, b []byte) ([]byte, api.Errno) {
	if e := checkBoth(a, b); e != api.OK {
		return nil, e
	}
	if Compare(a, b) < 0 {
		return nil, api.ErrArg
	}
	var digits [api.MaxNat]byte
	var borrow uint
	for i := range a {
		// 256 is lent to every place, so that the difference is never negative.
		v := 256 + digit(a, i) - digit(b, i) - borrow
		digits[len(digits)-1-i] = byte(v)
		borrow = 1 - v>>8
	}
	return cut(digits[:]), api.OK
}

// Mul returns the product of two numbers.
func Mul(a, b []byte) ([]byte, api.Errno) {
	if e := checkBoth(a, b); e != api.OK {
		return nil, e
	}
	return accumulate(func(add func(place int, v uint)) {
		for i := range a {
			for j := range b {
				add(i+j, digit(a, i)*digit(b, j))
			}
		}
	})
}

// Div returns the quotient and the remainder of a number and a small one.
func Div(n []byte, by uint32) (quotient []byte, remainder uint32, e api.Errno) {
	if e := Check(n); e != api.OK {
		return nil, 0, e
	}
	if by == 0 {
		return nil, 0, api.ErrArg
	}
	quotient, remainder = divide(n, by)
	return quotient, remainder, api.OK
}

// Pow returns a power of a number.
func Pow(n []byte, k int) ([]byte, api.Errno) {
	if e := Check(n); e != api.OK {
		return nil, e
	}
	if k < 0 {
		return nil, api.ErrArg
	}
	if Compare(n, Of(1)) <= 0 {
		// Only the powers of 0 and 1 stay within the limit for every k: the loop below would not end early.
		k = min(k, 1)
	}
	power := Of(1)
	for range k {
		next, e := Mul(power, n)
		if e != api.OK {
			return nil, e
		}
		power = next
	}
	return power, api.OK
}

// Bits returns the number of binary digits of a number.
func Bits(n []byte) int {
	if Check(n) != api.OK || len(n) == 0 {
		return 0
	}
	return 8*(len(n)-1) + bits.Len8(n[0])
}

// Text returns the decimal form of a number.
func Text(n []byte) string {
	if Check(n) != api.OK {
		return "?"
	}
	if len(n) == 0 {
		return "0"
	}
	var decimals [maxDecimals]byte
	first := len(decimals)
	for len(n) > 0 {
		quotient, remainder := divide(n, 10)
		first--
		decimals[first] = '0' + byte(remainder)
		n = quotient
	}
	return string(decimals[first:])
}

// Parse returns the number with a decimal form.
func Parse(s string) ([]byte, api.Errno) {
	if !isDecimal(s) {
		return nil, api.ErrForm
	}
	var n []byte
	for i := range len(s) {
		next, e := appendDecimal(n, s[i]-'0')
		if e != api.OK {
			return nil, e
		}
		n = next
	}
	return n, api.OK
}

// checkBoth returns the error of the first number, and otherwise that of the second one.
func checkBoth(a, b []byte) api.Errno {
	if e := Check(a); e != api.OK {
		return e
	}
	return Check(b)
}

// digit returns the digit of a number at a place, counted from the least significant one; 0 beyond its digits.
func digit(n []byte, place int) uint {
	if place >= len(n) {
		return 0
	}
	return uint(n[len(n)-1-place])
}

// cut returns a number without its leading zero bytes, and without capacity behind it.
func cut(n []byte) []byte {
	first := 0
	for first < len(n) && n[first] == 0 {
		first++
	}
	return n[first:len(n):len(n)]
}

// accumulate returns the sum of what fill adds at places counted from the least significant digit.
func accumulate(fill func(add func(place int, v uint))) ([]byte, api.Errno) {
	// Sums and products of two valid numbers fit, so a carry never leaves the array.
	var digits [2 * api.MaxNat]byte
	fill(func(place int, v uint) {
		for i := len(digits) - 1 - place; v > 0; i-- {
			v += uint(digits[i])
			digits[i] = byte(v)
			v >>= 8
		}
	})
	n := cut(digits[:])
	if len(n) > api.MaxNat {
		return nil, api.ErrLimit
	}
	return n, api.OK
}

// divide returns the quotient and the remainder of a valid number and one that is not 0.
func divide(n []byte, by uint32) (quotient []byte, remainder uint32) {
	var digits [api.MaxNat]byte
	start := len(digits) - len(n)
	var rest uint64
	for i, d := range n {
		rest = rest<<8 | uint64(d)
		digits[start+i] = byte(rest / uint64(by))
		rest %= uint64(by)
	}
	return cut(digits[:]), uint32(rest)
}

// isDecimal reports whether s is a decimal number without leading zeros.
func isDecimal(s string) bool {
	for i := range len(s) {
		if s[i] < '0' || s[i] > '9' {
			return false
		}
	}
	return s == "0" || s != "" && s[0] != '0'
}

// appendDecimal returns ten times n, and d.
func appendDecimal(n []byte, d byte) ([]byte, api.Errno) {
	return accumulate(func(add func(place int, v uint)) {
		add(0, uint(d))
		for i := range n {
			add(i, 10*digit(n, i))
		}
	})
}
