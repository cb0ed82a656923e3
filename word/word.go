// Package word reckons with words of 1 to 16 places.
package word

import (
	"augury/api"
)

const (
	narrowest = 1
	widest    = 16
)

// Ok tells whether w is a width.
func Ok(w int) bool {
	return narrowest <= w && w <= widest
}

// Size is how many words of width w there are; 0 of a width that is none.
func Size(w int) int {
	if !Ok(w) {
		return 0
	}
	return 1 << w
}

// Mask is n modulo Size, never below 0; 0 of a width that is none.
func Mask(w int, n int) int {
	if !Ok(w) {
		return 0
	}
	// % would leave a number below 0 below 0; the low places of one are its word.
	return n & (Size(w) - 1)
}

// Do reckons op of the words a and b; false of a width or an op that is none.
func Do(w int, op int, a, b int) (int, bool) {
	if !Ok(w) {
		return 0, false
	}
	n, ok := reckon(op, Mask(w, a), Mask(w, b))
	return Mask(w, n), ok
}

// reckon's a and b are words already; what it tells may be beyond one.
func reckon(op, a, b int) (int, bool) {
	switch op {
	case api.OAdd:
		return a + b, true
	case api.OSub:
		return a - b, true
	case api.OMul:
		return a * b, true
	case api.OAnd:
		return a & b, true
	case api.OOr:
		return a | b, true
	case api.OXor:
		return a ^ b, true
	case api.OShl:
		// Go moves as far as b says, so a move by the width or more leaves nothing that a mask keeps.
		return a << b, true
	case api.OShr:
		return a >> b, true
	case api.OLt:
		return truth(a < b), true
	case api.OEq:
		return truth(a == b), true
	}
	return 0, false
}

func truth(is bool) int {
	if is {
		return 1
	}
	return 0
}
