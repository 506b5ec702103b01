// Package nat has natural numbers without a bound: see shared/doc/01-nat.md.
package nat

import (
	"math"

	"quittance/api"
)

// base is what one limb counts up to.
const base = 1_000_000_000

// Right tells whether each limb of a is below the base, and the last one is not 0.
func Right(a api.Nat) bool {
	for _, limb := range a {
		if limb >= base {
			return false
		}
	}
	return len(a) == 0 || a[len(a)-1] != 0
}

// Trim answers the number that the limbs of l make, without noughts at its end.
func Trim(l []uint32) api.Nat {
	return append(api.Nat(nil), cut(l)...)
}

// Make answers n as a natural number.
func Make(n uint64) api.Nat {
	var a api.Nat
	for ; n > 0; n /= base {
		a = append(a, uint32(n%base))
	}
	return a
}

// Cmp answers -1, 0 or 1, as a is below b, the same, or above it.
func Cmp(a, b api.Nat) int {
	switch {
	case len(a) < len(b):
		return -1
	case len(a) > len(b):
		return 1
	}
	order := 0
limbs:
	for i := len(a) - 1; i >= 0; i-- {
		switch {
		case a[i] < b[i]:
			order = -1
			break limbs
		case a[i] > b[i]:
			order = 1
			break limbs
		}
	}
	return order
}

// Same tells whether a and b are one number.
func Same(a, b api.Nat) bool {
	return Cmp(a, b) == 0
}

// Add answers the sum of a and b.
func Add(a, b api.Nat) api.Nat {
	if len(a) < len(b) {
		a, b = b, a
	}
	// One limb more than the longer of both, for what is carried out of it.
	sum := make(api.Nat, len(a)+1)
	copy(sum, a)
	carry := uint32(0)
limbs:
	for i := range sum {
		switch {
		case i < len(b):
			sum[i] += b[i] + carry
		case carry == 0:
			// What is left of a is in its place already.
			break limbs
		default:
			sum[i] += carry
		}
		carry = 0
		if sum[i] >= base {
			sum[i] -= base
			carry = 1
		}
	}
	return cut(sum)
}

// Sub answers a without b; ErrArg, if b is above a.
func Sub(a, b api.Nat) (api.Nat, api.Errno) {
	if Cmp(a, b) < 0 {
		return nil, api.ErrArg
	}
	rest := make(api.Nat, len(a))
	copy(rest, a)
	borrow := uint32(0)
limbs:
	for i := range rest {
		take := borrow
		switch {
		case i < len(b):
			take += b[i]
		case borrow == 0:
			// What is left of a is in its place already.
			break limbs
		}
		borrow = 0
		if rest[i] < take {
			rest[i] += base
			borrow = 1
		}
		rest[i] -= take
	}
	return cut(rest), api.OK
}

// cut takes the noughts off a's end without a copy: what it answers lies in a's own room. Nought is nil, so that it holds no room.
func cut(a api.Nat) api.Nat {
	n := len(a)
	for n > 0 && a[n-1] == 0 {
		n--
	}
	if n == 0 {
		return nil
	}
	return a[:n]
}

// Even tells whether two goes into a.
func Even(a api.Nat) bool {
	// The base is even, so all limbs but the lowest one are even parts of a.
	return len(a) == 0 || a[0]%2 == 0
}

// Small answers a and true, if it is at most 2^64 - 1; else 0 and false.
func Small(a api.Nat) (uint64, bool) {
	if Cmp(a, Make(math.MaxUint64)) > 0 {
		return 0, false
	}
	n := uint64(0)
	for i := len(a) - 1; i >= 0; i-- {
		n = n*base + uint64(a[i])
	}
	return n, true
}
