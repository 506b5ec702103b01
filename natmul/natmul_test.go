package natmul_test

import (
	"math"
	"math/big"
	"slices"
	"testing"

	"quittance/api"
	"quittance/nat"
	"quittance/natmul"
)

const top = 999_999_999

// whole answers what a is worth, told by the library's own numbers.
func whole(a api.Nat) *big.Int {
	n := new(big.Int)
	for i := len(a) - 1; i >= 0; i-- {
		n.Mul(n, big.NewInt(top+1))
		n.Add(n, big.NewInt(int64(a[i])))
	}
	return n
}

// product answers a times b, told by the library's own numbers.
func product(a, b api.Nat) *big.Int {
	return new(big.Int).Mul(whole(a), whole(b))
}

// power answers base to the n, told by the library's own numbers.
func power(base *big.Int, n int) *big.Int {
	return new(big.Int).Exp(base, big.NewInt(int64(n)), nil)
}

// times answers a number of n limbs that are all alike.
func times(limb uint32, n int) api.Nat {
	return api.Nat(slices.Repeat([]uint32{limb}, n))
}

// joined answers the limbs of all parts behind each other.
func joined(parts ...api.Nat) api.Nat {
	return slices.Concat(parts...)
}

// mixed answers a right number of n limbs of no pattern, another one for each seed.
func mixed(n int, seed uint64) api.Nat {
	var a api.Nat
	for range n {
		seed = seed*6364136223846793005 + 1442695040888963407
		a = append(a, uint32(seed>>33)%top+1)
	}
	return a
}

// few answers short right numbers, at the edges of limbs.
func few() []api.Nat {
	return []api.Nat{
		nil, {}, {1}, {2}, {10}, {top}, {0, 1}, {1, 1}, {top, top}, {0, 0, 1}, {top, top, top},
		{709551615, 446744073, 18}, {709551616, 446744073, 18}, joined(times(0, 5), times(top, 2)), mixed(7, 7),
	}
}

// samples answers right numbers: short ones, and such as are long enough for products of halves, at the lengths where those begin, with noughts in one half, and with limbs that carry all the way.
func samples() []api.Nat {
	l := few()
	for _, n := range []int{38, 39, 40, 41, 42, 79, 80, 81, 83, 161} {
		l = append(l, mixed(n, uint64(n)), times(top, n))
	}
	return append(l,
		joined(times(0, 99), api.Nat{1}), joined(api.Nat{1}, times(0, 98), api.Nat{1}),
		joined(times(0, 40), mixed(40, 1)), joined(mixed(10, 2), times(0, 60), mixed(10, 3)),
		joined(times(top, 60), times(0, 59), api.Nat{5}), mixed(400, 4), mixed(1000, 5))
}

// twisted answers lists that are no right numbers.
func twisted() []api.Nat {
	return []api.Nat{
		{0}, {0, 0}, {5, 0}, {top + 1}, {math.MaxUint32}, {math.MaxUint32, math.MaxUint32, math.MaxUint32},
		{0, math.MaxUint32}, {math.MaxUint32, 0, 0, 0}, times(0, 90), times(math.MaxUint32, 41), times(math.MaxUint32, 100),
		joined(times(math.MaxUint32, 50), times(0, 50)), joined(times(0, 50), times(math.MaxUint32, 50)),
	}
}

// is checks that got is right, and worth want.
func is(t *testing.T, what string, got api.Nat, want *big.Int) {
	t.Helper()
	if !nat.Right(got) {
		t.Errorf("%s: %v is not right", what, got)
	}
	if whole(got).Cmp(want) != 0 {
		t.Errorf("%s: %v, want %v", what, whole(got), want)
	}
}

// isFine checks that there is no error, and that got is right, and worth want.
func isFine(t *testing.T, what string, got api.Nat, err api.Errno, want *big.Int) {
	t.Helper()
	if err != api.OK {
		t.Errorf("%s: error %d", what, err)
	}
	is(t, what, got, want)
}

// isWrong checks that there is ErrArg, and nothing beside it.
func isWrong(t *testing.T, what string, got api.Nat, err api.Errno) {
	t.Helper()
	if err != api.ErrArg || len(got) != 0 {
		t.Errorf("%s: %v, %d, want nothing and ErrArg", what, got, err)
	}
}

// P2.1
func TestTimes(t *testing.T) {
	factors := []uint32{0, 1, 2, 10, top - 1, top, top + 1, top + 2, 4_000_000_000, math.MaxUint32 - 1, math.MaxUint32}
	for _, a := range samples() {
		for _, n := range factors {
			is(t, "Times", natmul.Times(a, n), product(a, nat.Make(uint64(n))))
		}
	}
}

// P2.2
func TestMul(t *testing.T) {
	if got := natmul.Mul(api.Nat{top}, api.Nat{top}); !slices.Equal(got, api.Nat{1, top - 1}) {
		t.Errorf("999999999 times itself: %v", got)
	}
	for _, a := range samples() {
		for _, b := range samples() {
			is(t, "Mul", natmul.Mul(a, b), product(a, b))
		}
	}
}

// P2.3
func TestSquare(t *testing.T) {
	for _, a := range samples() {
		is(t, "Square", natmul.Square(a), product(a, a))
	}
}

// P2.4
func TestPower(t *testing.T) {
	for _, a := range samples() {
		for _, n := range []int{0, 1, 2, 3, 4, 7, 8} {
			got, err := natmul.Power(a, n)
			isFine(t, "Power", got, err, power(whole(a), n))
		}
		for _, n := range []int{-1, -2, math.MinInt} {
			got, err := natmul.Power(a, n)
			isWrong(t, "Power below 0", got, err)
		}
	}
	got, err := natmul.Power(api.Nat{3}, 5000)
	isFine(t, "3 to the 5000", got, err, power(big.NewInt(3), 5000))
}

// P2.4: of nought and of 1 each power is short, and is there at once.
func TestPowerOfNoughtAndOne(t *testing.T) {
	for _, n := range []int{1, 2, 1 << 40, math.MaxInt - 1, math.MaxInt} {
		got, err := natmul.Power(nil, n)
		isFine(t, "power of nought", got, err, big.NewInt(0))
		got, err = natmul.Power(api.Nat{1}, n)
		isFine(t, "power of 1", got, err, big.NewInt(1))
	}
	got, err := natmul.Power(nil, 0)
	isFine(t, "nought to the 0", got, err, big.NewInt(1))
}

// P2.5
func TestTen(t *testing.T) {
	for n := range 60 {
		got, err := natmul.Ten(n)
		isFine(t, "Ten", got, err, power(big.NewInt(10), n))
	}
	for _, n := range []int{999, 1000, 12345} {
		got, err := natmul.Ten(n)
		isFine(t, "Ten", got, err, power(big.NewInt(10), n))
	}
	for _, n := range []int{-1, -9, math.MinInt} {
		got, err := natmul.Ten(n)
		isWrong(t, "Ten below 0", got, err)
	}
}

// P2.6
func TestShift(t *testing.T) {
	for _, a := range samples() {
		for _, n := range []int{0, 1, 2, 8, 9, 10, 17, 18, 19, 1000} {
			got, err := natmul.Shift(a, n)
			want := power(big.NewInt(10), n)
			isFine(t, "Shift", got, err, want.Mul(want, whole(a)))
		}
		for _, n := range []int{-1, -9, math.MinInt} {
			got, err := natmul.Shift(a, n)
			isWrong(t, "Shift below 0", got, err)
		}
	}
	for _, n := range []int{1 << 40, math.MaxInt - 1, math.MaxInt} {
		got, err := natmul.Shift(nil, n)
		isFine(t, "Shift of nought", got, err, big.NewInt(0))
	}
}

// P2.7, P2.10
func TestFast(t *testing.T) {
	for _, a := range samples() {
		for _, b := range samples() {
			got := natmul.Fast(a, b)
			is(t, "Fast", got, product(a, b))
			if !nat.Same(got, natmul.Mul(a, b)) {
				t.Errorf("Fast is not Mul, of %v and %v", a, b)
			}
		}
	}
}

// P2.7: with three products of halves, twice the limbs take three times the room in pieces; limb by limb the pieces stay as many, and four products of halves take four times as many.
func TestFastTakesThreeProducts(t *testing.T) {
	pieces := func(n int) float64 {
		a, b := mixed(n, 1), mixed(n, 2)
		return testing.AllocsPerRun(3, func() { natmul.Fast(a, b) })
	}
	if ratio := pieces(4096) / pieces(2048); ratio < 2.5 || ratio > 3.5 {
		t.Errorf("twice the limbs take %v times the pieces", ratio)
	}
}

// P2.8
func TestSum(t *testing.T) {
	l := samples()
	m := slices.Clone(l)
	slices.Reverse(m)
	want := new(big.Int)
	for n := range len(l) + 1 {
		is(t, "Sum", natmul.Sum(l[:n], m[:n]), want)
		if n < len(l) {
			want.Add(want, product(l[n], m[n]))
		}
	}
}

// P2.8: the last carries go beyond the longest product.
func TestSumCarries(t *testing.T) {
	l := slices.Repeat([]api.Nat{{top, top}}, 3000)
	want := product(l[0], l[0])
	is(t, "Sum of alike ones", natmul.Sum(l, l), want.Mul(want, big.NewInt(3000)))
	is(t, "Sum with a long carry", natmul.Sum([]api.Nat{times(top, 50), {1}}, []api.Nat{{1}, {1}}), whole(joined(times(0, 50), api.Nat{1})))
}

// P2.8: a place that only one of both has counts nothing.
func TestSumOfListsOfTwoLengths(t *testing.T) {
	l := []api.Nat{{2}, {3}, mixed(50, 1)}
	for _, n := range []int{0, 1, 2} {
		want := natmul.Sum(l[:n], l[:n])
		if got := natmul.Sum(l, l[:n]); !nat.Same(got, want) {
			t.Errorf("Sum of three and %d: %v, want %v", n, got, want)
		}
		if got := natmul.Sum(l[:n], l); !nat.Same(got, want) {
			t.Errorf("Sum of %d and three: %v, want %v", n, got, want)
		}
	}
	if got := natmul.Sum(nil, nil); len(got) != 0 {
		t.Errorf("Sum of nothing: %v", got)
	}
	if got := natmul.Sum(l[:2], l[:2]); !slices.Equal(got, api.Nat{13}) {
		t.Errorf("2 times 2 and 3 times 3: %v", got)
	}
}

// P2.9
func TestProductsInAnyOrder(t *testing.T) {
	l := append(few(), mixed(40, 1), times(top, 45), joined(times(0, 40), mixed(50, 2)))
	ways := []func(a, b api.Nat) api.Nat{natmul.Mul, natmul.Fast}
	for _, mul := range ways {
		for _, a := range l {
			for _, b := range l {
				ab := mul(a, b)
				if !nat.Same(ab, mul(b, a)) {
					t.Errorf("%v and %v: not the same in the other order", a, b)
				}
				for _, c := range l {
					if !nat.Same(mul(ab, c), mul(a, mul(b, c))) {
						t.Errorf("%v, %v, %v: not the same together in another way", a, b, c)
					}
					if !nat.Same(mul(a, nat.Add(b, c)), nat.Add(ab, mul(a, c))) {
						t.Errorf("%v over the sum of %v and %v: not the same", a, b, c)
					}
				}
			}
		}
	}
}

// callAll calls all that takes a and b, and answers the lists that come of it.
func callAll(a, b api.Nat) []api.Nat {
	power, _ := natmul.Power(a, 3)
	same, _ := natmul.Power(a, 1)
	shifted, _ := natmul.Shift(a, 11)
	still, _ := natmul.Shift(a, 0)
	return []api.Nat{
		natmul.Times(a, 1), natmul.Times(a, math.MaxUint32), natmul.Mul(a, b), natmul.Square(a), power, same, shifted, still,
		natmul.Fast(a, b), natmul.Sum([]api.Nat{a, b}, []api.Nat{b, a}), natmul.Sum([]api.Nat{a}, []api.Nat{{1}}),
	}
}

// R1
func TestNothingPanics(t *testing.T) {
	l := append(samples(), twisted()...)
	for _, a := range l {
		for _, b := range l {
			callAll(a, b)
		}
	}
}

// R1: what is nought but for its form has no great powers and shifts either.
func TestNoughtsOfWrongFormEnd(t *testing.T) {
	for _, a := range []api.Nat{{0}, times(0, 90)} {
		natmul.Power(a, math.MaxInt)
		natmul.Shift(a, math.MaxInt)
	}
}

// roomy answers a with room behind its end, and all of that room.
func roomy(a api.Nat) (api.Nat, []uint32) {
	room := slices.Concat(a, times(77, 4))
	return api.Nat(room[:len(a)]), room
}

// R3
func TestMemoryIsNew(t *testing.T) {
	l := append(few(), twisted()...)
	l = append(l, mixed(41, 1), times(top, 90), joined(times(0, 50), mixed(50, 2)))
	for _, a := range l {
		for _, b := range l {
			x, xRoom := roomy(a)
			y, yRoom := roomy(b)
			for _, answer := range callAll(x, y) {
				answer = answer[:cap(answer)]
				for i := range answer {
					answer[i] = 55
				}
			}
			if !slices.Equal(xRoom, joined(a, times(77, 4))) || !slices.Equal(yRoom, joined(b, times(77, 4))) {
				t.Fatalf("%v and %v were changed, or are shared", a, b)
			}
		}
	}
}

// R3
func TestListsOfSumStay(t *testing.T) {
	x, xRoom := roomy(mixed(45, 1))
	spare := api.Nat{88}
	l := []api.Nat{x, {3}, spare}
	natmul.Sum(l[:2], []api.Nat{x, x, x})
	if !slices.Equal(xRoom, joined(mixed(45, 1), times(77, 4))) || !slices.Equal(l[0], x) || !slices.Equal(l[1], api.Nat{3}) || !slices.Equal(l[2], api.Nat{88}) {
		t.Error("what Sum was handed in was changed")
	}
}
