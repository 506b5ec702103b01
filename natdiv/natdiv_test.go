package natdiv_test

import (
	"math"
	"math/big"
	"slices"
	"testing"

	"quittance/api"
	"quittance/nat"
	"quittance/natdiv"
	"quittance/natmul"
)

const top = 999_999_999

// whole answers what a is worth, told by the library's own numbers.
func whole(a api.Nat) *big.Int {
	n := new(big.Int)
	for i := len(a) - 1; i >= 0; i-- {
		n.Mul(n, big.NewInt(top+1))
		n.Add(n, big.NewInt(int64(a[i])))
	}
	return n
}

// limbs answers n as a natural number.
func limbs(n *big.Int) api.Nat {
	var a api.Nat
	rest, limb := new(big.Int).Set(n), new(big.Int)
	for rest.Sign() > 0 {
		rest.DivMod(rest, big.NewInt(top+1), limb)
		a = append(a, uint32(limb.Int64()))
	}
	return a
}

// times answers a number of n limbs that are all alike.
func times(limb uint32, n int) api.Nat {
	return api.Nat(slices.Repeat([]uint32{limb}, n))
}

// joined answers the limbs of all parts behind each other.
func joined(parts ...api.Nat) api.Nat {
	return slices.Concat(parts...)
}

// mixed answers a right number of n limbs of no pattern, another one for each seed.
func mixed(n int, seed uint64) api.Nat {
	var a api.Nat
	for range n {
		seed = seed*6364136223846793005 + 1442695040888963407
		a = append(a, uint32(seed>>33)%top+1)
	}
	return a
}

// samples answers right numbers: short ones, at the edges of limbs and of 2^32 and 2^64, and longer ones, whose limbs are low, high and nought at either end and between.
func samples() []api.Nat {
	l := []api.Nat{
		nil, {}, {1}, {2}, {3}, {5}, {7}, {10}, {12}, {18}, {top - 1}, {top},
		{0, 1}, {1, 1}, {top, 1}, {0, 2}, {0, 500_000_000}, {top, 499_999_999}, {top, top}, {top - 1, top},
		{294967295, 4}, {294967296, 4}, {0, 0, 1}, {1, 0, 1}, {0, 1, 1}, {1, 0, 500_000_000}, {top, 0, 500_000_000}, {top, top, 499_999_999}, {top, top, top},
		{709551615, 446744073, 18}, {709551616, 446744073, 18}, {0, 0, 0, 1}, {1, 0, 0, 1}, {0, 0, top, top}, {top, 0, 0, top},
		times(top, 9), joined(times(0, 9), api.Nat{1}), joined(times(0, 5), times(top, 4)), joined(times(top, 5), times(0, 4), api.Nat{1}),
	}
	for n := range 12 {
		l = append(l, mixed(n+1, uint64(n)))
	}
	return append(l, mixed(31, 1), mixed(60, 2), times(top, 61))
}

// twisted answers lists that are no right numbers.
func twisted() []api.Nat {
	return []api.Nat{
		{0}, {0, 0}, {5, 0}, {5, 0, 0, 0}, {top + 1}, {math.MaxUint32}, {math.MaxUint32, math.MaxUint32, math.MaxUint32},
		{0, math.MaxUint32}, {math.MaxUint32, 0, 0, 0}, {0, 0, top + 1}, {1, 0, 0, math.MaxUint32}, times(0, 20), times(math.MaxUint32, 9),
		joined(times(math.MaxUint32, 9), times(0, 9)), joined(times(0, 9), times(math.MaxUint32, 9)),
	}
}

// is checks that got is right, and worth want.
func is(t *testing.T, what string, got api.Nat, want *big.Int) {
	t.Helper()
	if !nat.Right(got) {
		t.Errorf("%s: %v is not right", what, got)
	}
	if whole(got).Cmp(want) != 0 {
		t.Errorf("%s: %v, want %v", what, whole(got), want)
	}
}

// isFine checks that there is no error, and that got is right, and worth want.
func isFine(t *testing.T, what string, got api.Nat, err api.Errno, want *big.Int) {
	t.Helper()
	if err != api.OK {
		t.Errorf("%s: error %d", what, err)
	}
	is(t, what, got, want)
}

// P3.1
func TestSmall(t *testing.T) {
	for _, a := range samples() {
		for _, n := range []uint32{1, 2, 3, 7, 10, 500_000_000, top - 1, top, top + 1, top + 2, 4_000_000_000, math.MaxUint32 - 1, math.MaxUint32} {
			quotient, rest, err := natdiv.Small(a, n)
			want, left := new(big.Int).DivMod(whole(a), big.NewInt(int64(n)), new(big.Int))
			isFine(t, "Small", quotient, err, want)
			if left.Cmp(big.NewInt(int64(rest))) != 0 {
				t.Errorf("Small(%v, %d): rest %d, want %v", a, n, rest, left)
			}
		}
		if quotient, rest, err := natdiv.Small(a, 0); len(quotient) != 0 || rest != 0 || err != api.ErrZero {
			t.Errorf("Small(%v, 0): %v, %d, %d, want ErrZero", a, quotient, rest, err)
		}
	}
}

// isDivided checks Div of a and b, of which b is not nought.
func isDivided(t *testing.T, a, b api.Nat) {
	t.Helper()
	quotient, rest, err := natdiv.Div(a, b)
	want, left := new(big.Int).DivMod(whole(a), whole(b), new(big.Int))
	isFine(t, "quotient", quotient, err, want)
	is(t, "rest", rest, left)
}

// P3.2
func TestDiv(t *testing.T) {
	for _, a := range samples() {
		for _, b := range samples() {
			if len(b) > 0 {
				isDivided(t, a, b)
				continue
			}
			if quotient, rest, err := natdiv.Div(a, b); len(quotient) != 0 || len(rest) != 0 || err != api.ErrZero {
				t.Errorf("Div(%v, %v): %v, %v, %d, want ErrZero", a, b, quotient, rest, err)
			}
		}
	}
}

// P3.2: just below, at and just above products, where a limb that is guessed is the nearest to being too high.
func TestDivAroundProducts(t *testing.T) {
	for _, a := range samples() {
		for _, b := range samples() {
			if len(a) == 0 || len(b) == 0 {
				continue
			}
			product := natmul.Mul(a, b)
			below, _ := nat.Sub(product, nat.Make(1))
			isDivided(t, below, b)
			isDivided(t, product, b)
			isDivided(t, nat.Add(product, nat.Make(1)), b)
			full, _ := nat.Sub(nat.Add(product, b), nat.Make(1))
			isDivided(t, full, b)
		}
	}
}

// P3.2: each of these has a limb whose guess from the highest limbs is one too high, so that b must be put back: 499999999 and 999999999 times b, less 1.
func TestDivPutsBack(t *testing.T) {
	for _, b := range []api.Nat{{1, 0, 500_000_000}, {top, 0, 500_000_000}, {top, 0, top}, {1, 0, 0, 700_000_000}, joined(times(top, 4), api.Nat{0, 600_000_000})} {
		for _, n := range []uint32{499_999_999, top} {
			a, _ := nat.Sub(natmul.Times(b, n), nat.Make(1))
			isDivided(t, a, b)
			isDivided(t, joined(mixed(5, 1), a), b)
		}
	}
}

// P3.2
func TestDivOfLongNumbers(t *testing.T) {
	for _, n := range []int{1, 2, 3, 50, 200, 399, 400, 401} {
		isDivided(t, mixed(400, 1), mixed(n, 2))
		isDivided(t, times(top, 400), joined(times(0, n-1), api.Nat{1}))
		isDivided(t, joined(times(0, 400), api.Nat{1}), times(top, n))
	}
}

// P3.3
func TestGcd(t *testing.T) {
	for _, a := range samples() {
		for _, b := range samples() {
			is(t, "Gcd", natdiv.Gcd(a, b), new(big.Int).GCD(nil, nil, whole(a), whole(b)))
		}
	}
}

// P3.3
func TestGcdOfMultiples(t *testing.T) {
	for _, c := range samples() {
		a, b := natmul.Mul(c, mixed(7, 7)), natmul.Mul(c, mixed(5, 5))
		is(t, "Gcd", natdiv.Gcd(a, b), new(big.Int).GCD(nil, nil, whole(a), whole(b)))
		is(t, "Gcd of c and what c goes into", natdiv.Gcd(c, a), whole(c))
		is(t, "Gcd of what c goes into and c", natdiv.Gcd(a, c), whole(c))
	}
}

// nearest answers the whole number nearest to a by b, told by the library's own numbers.
func nearest(a, b *big.Int) *big.Int {
	low, rest := new(big.Int).DivMod(a, b, new(big.Int))
	order := rest.Lsh(rest, 1).Cmp(b)
	if order > 0 || order == 0 && low.Bit(0) == 1 {
		low.Add(low, big.NewInt(1))
	}
	return low
}

// P3.4
func TestNear(t *testing.T) {
	tests := []struct{ a, b, want uint64 }{
		{7, 2, 4}, {5, 2, 2}, {1, 2, 0}, {3, 2, 2}, {0, 1, 0}, {0, 9, 0}, {1, 3, 0}, {2, 3, 1}, {4, 3, 1}, {5, 3, 2}, {6, 3, 2},
		{4, 8, 0}, {12, 8, 2}, {20, 8, 2}, {28, 8, 4}, {3, 8, 0}, {5, 8, 1}, {1_999_999_999, 2, 1_000_000_000}, {1_999_999_998, 4, 500_000_000},
	}
	for _, c := range tests {
		got, err := natdiv.Near(nat.Make(c.a), nat.Make(c.b))
		isFine(t, "Near", got, err, new(big.Int).SetUint64(c.want))
	}
	for _, a := range samples() {
		for _, b := range samples() {
			got, err := natdiv.Near(a, b)
			if len(b) > 0 {
				isFine(t, "Near", got, err, nearest(whole(a), whole(b)))
			} else if len(got) != 0 || err != api.ErrZero {
				t.Errorf("Near(%v, %v): %v, %d, want ErrZero", a, b, got, err)
			}
		}
	}
}

// P3.4: halves, and what is 1 off them, of odd and even quotients.
func TestNearAroundHalves(t *testing.T) {
	for _, half := range samples() {
		if len(half) == 0 {
			continue
		}
		b := nat.Add(half, half)
		for n := range uint64(4) {
			a := nat.Add(natmul.Mul(b, nat.Make(n)), half)
			below, _ := nat.Sub(a, nat.Make(1))
			for _, a := range []api.Nat{below, a, nat.Add(a, nat.Make(1))} {
				got, err := natdiv.Near(a, b)
				isFine(t, "Near", got, err, nearest(whole(a), whole(b)))
			}
		}
	}
}

// P3.5
func TestRoot(t *testing.T) {
	for n := range uint64(1000) {
		is(t, "Root", natdiv.Root(nat.Make(n)), new(big.Int).Sqrt(new(big.Int).SetUint64(n)))
	}
	l := samples()
	for n := range 40 {
		l = append(l, mixed(n, 77), times(top, n), joined(times(0, n), api.Nat{1}), joined(times(0, n), api.Nat{top}))
	}
	for _, a := range l {
		is(t, "Root", natdiv.Root(a), new(big.Int).Sqrt(whole(a)))
	}
}

// P3.6
func TestDigits(t *testing.T) {
	for _, a := range samples() {
		for _, base := range []uint32{2, 3, 7, 10, 16, 256, 65535, 65536, 65537, top, top + 1, top + 2, 1 << 31, math.MaxUint32} {
			got, err := natdiv.Digits(a, base)
			if want := told(whole(a), base); err != api.OK || !slices.Equal(got, want) {
				t.Errorf("Digits(%v, %d): %v, %d, want %v", a, base, got, err, want)
			}
		}
		for _, base := range []uint32{0, 1} {
			if got, err := natdiv.Digits(a, base); len(got) != 0 || err != api.ErrArg {
				t.Errorf("Digits(%v, %d): %v, %d, want ErrArg", a, base, got, err)
			}
		}
	}
}

// told answers n's digits to the base, told by the library's own numbers.
func told(n *big.Int, base uint32) []uint32 {
	var digits []uint32
	digit := new(big.Int)
	for n.Sign() > 0 {
		n.DivMod(n, big.NewInt(int64(base)), digit)
		digits = append(digits, uint32(digit.Uint64()))
	}
	return digits
}

// P3.6: about powers of the base, where one digit more begins.
func TestDigitsAroundPowers(t *testing.T) {
	for _, base := range []uint32{2, 3, 10, 1000, 65536, top, math.MaxUint32} {
		for n := range 40 {
			power := new(big.Int).Exp(big.NewInt(int64(base)), big.NewInt(int64(n)), nil)
			want := slices.Repeat([]uint32{base - 1}, n)
			below := new(big.Int).Sub(power, big.NewInt(1))
			if got, err := natdiv.Digits(limbs(below), base); err != api.OK || !slices.Equal(got, want) {
				t.Errorf("Digits of %d to the %d, less 1: %v, %d", base, n, got, err)
			}
			want = append(make([]uint32, n), 1)
			if got, err := natdiv.Digits(limbs(power), base); err != api.OK || !slices.Equal(got, want) {
				t.Errorf("Digits of %d to the %d: %v, %d", base, n, got, err)
			}
		}
	}
}

// P3.7
func TestQuotientTimesDivisorAndRest(t *testing.T) {
	for _, a := range samples() {
		for _, b := range samples() {
			if len(b) == 0 {
				continue
			}
			quotient, rest, err := natdiv.Div(a, b)
			if err != api.OK || !nat.Same(nat.Add(natmul.Mul(quotient, b), rest), a) || nat.Cmp(rest, b) >= 0 {
				t.Errorf("Div(%v, %v): %v, %v, %d", a, b, quotient, rest, err)
			}
		}
	}
}

// P3.7
func TestWhatGoesIntoBothGoesIntoGcd(t *testing.T) {
	for _, c := range samples() {
		if len(c) == 0 {
			continue
		}
		for _, a := range samples() {
			gcd := natdiv.Gcd(natmul.Mul(c, a), natmul.Mul(c, mixed(4, 9)))
			if _, rest, err := natdiv.Div(gcd, c); err != api.OK || len(rest) != 0 {
				t.Errorf("%v goes into both, and leaves %v of their Gcd %v", c, rest, gcd)
			}
		}
	}
}

// P3.8
func TestRootsOfSquares(t *testing.T) {
	one := nat.Make(1)
	for _, root := range append(samples(), mixed(90, 1), times(top, 33), times(top, 34)) {
		square := natmul.Mul(root, root)
		next := natmul.Mul(nat.Add(root, one), nat.Add(root, one))
		below, _ := nat.Sub(next, one)
		for _, a := range []api.Nat{square, nat.Add(square, root), below} {
			got := natdiv.Root(a)
			more := nat.Add(got, one)
			if nat.Cmp(natmul.Mul(got, got), a) > 0 || nat.Cmp(natmul.Mul(more, more), a) <= 0 {
				t.Errorf("Root(%v): %v", a, got)
			}
			is(t, "Root", got, whole(root))
		}
		is(t, "Root of the next square", natdiv.Root(next), whole(nat.Add(root, one)))
	}
}

// callAll calls all that takes a and b, and answers the lists that come of it.
func callAll(a, b api.Nat) []api.Nat {
	l := []api.Nat{natdiv.Gcd(a, b), natdiv.Root(a)}
	for _, n := range []uint32{0, 1, 2, math.MaxUint32} {
		quotient, _, _ := natdiv.Small(a, n)
		digits, _ := natdiv.Digits(a, n)
		l = append(l, quotient, digits)
	}
	sameLimbs, _ := natdiv.Digits(a, top+1)
	quotient, rest, _ := natdiv.Div(a, b)
	itself, _, _ := natdiv.Div(a, api.Nat{1})
	near, _ := natdiv.Near(a, b)
	nearItself, _ := natdiv.Near(a, api.Nat{1})
	return append(l, sameLimbs, quotient, rest, itself, near, nearItself)
}

// R1
func TestNothingPanics(t *testing.T) {
	l := append(samples(), twisted()...)
	for _, a := range l {
		for _, b := range l {
			callAll(a, b)
		}
	}
}

// roomy answers a with room behind its end, and all of that room.
func roomy(a api.Nat) (api.Nat, []uint32) {
	room := slices.Concat(a, times(77, 4))
	return api.Nat(room[:len(a)]), room
}

// R3
func TestMemoryIsNew(t *testing.T) {
	l := append(samples(), twisted()...)
	for _, a := range l {
		for _, b := range l {
			x, xRoom := roomy(a)
			y, yRoom := roomy(b)
			for _, answer := range callAll(x, y) {
				answer = answer[:cap(answer)]
				for i := range answer {
					answer[i] = 55
				}
			}
			if !slices.Equal(xRoom, joined(a, times(77, 4))) || !slices.Equal(yRoom, joined(b, times(77, 4))) {
				t.Fatalf("%v and %v were changed, or are shared", a, b)
			}
		}
	}
}

// R3
func TestQuotientAndRestShareNothing(t *testing.T) {
	for _, a := range samples() {
		for _, b := range samples() {
			quotient, rest, _ := natdiv.Div(a, b)
			want := slices.Clone(rest)
			quotient = quotient[:cap(quotient)]
			for i := range quotient {
				quotient[i] = 55
			}
			if !slices.Equal(rest, want) {
				t.Fatalf("quotient and rest of %v by %v share room", a, b)
			}
		}
	}
}
