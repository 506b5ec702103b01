package dec_test

import (
	"math"
	"math/big"
	"slices"
	"strings"
	"testing"

	"quittance/api"
	"quittance/dec"
	"quittance/digits"
	"quittance/nat"
)

const (
	top = 999_999_999

	// finest is the greatest scale of which the chapter promises something.
	finest = 1_000_000
)

// whole answers what a is worth, told by the library's own numbers.
func whole(a api.Nat) *big.Int {
	n := new(big.Int)
	for i := len(a) - 1; i >= 0; i-- {
		n.Mul(n, big.NewInt(top+1))
		n.Add(n, big.NewInt(int64(a[i])))
	}
	return n
}

// ten answers 10 to the n, told by the library's own numbers.
func ten(n int) *big.Int {
	return new(big.Int).Exp(big.NewInt(10), big.NewInt(int64(n)), nil)
}

// value answers what d is worth, told by the library's own numbers.
func value(d api.Dec) *big.Rat {
	n := whole(d.Coef)
	if d.Neg {
		n.Neg(n)
	}
	return new(big.Rat).SetFrac(n, ten(d.Scale))
}

// number answers the decimal that is written as s: a minus or none, digits, and a point with digits behind it or none.
func number(s string) api.Dec {
	left, neg := strings.CutPrefix(s, "-")
	front, behind, _ := strings.Cut(left, ".")
	coef, err := digits.Parse(front + behind)
	if err != api.OK {
		panic(s)
	}
	return api.Dec{Neg: neg && len(coef) > 0, Coef: coef, Scale: len(behind)}
}

// numbers answers the decimals that are written so.
func numbers(l ...string) []api.Dec {
	var all []api.Dec
	for _, s := range l {
		all = append(all, number(s))
	}
	return all
}

// text answers d as number reads it.
func text(d api.Dec) string {
	s := digits.Text(d.Coef)
	if d.Scale > 0 {
		s = strings.Repeat("0", max(d.Scale+1-len(s), 0)) + s
		s = s[:len(s)-d.Scale] + "." + s[len(s)-d.Scale:]
	}
	if d.Neg {
		return "-" + s
	}
	return s
}

// few answers right decimals: nought, those of both signs about 1, with noughts at the end, and at the edges of limbs.
func few() []api.Dec {
	return numbers("0", "0.0", "0.000000000", "1", "-1", "1.0", "-1.000", "0.1", "-0.1", "0.10", "0.9", "-1.1", "10", "100.00", "0.001", "-0.0010",
		"1.50", "2.5", "-2.50", "999999999", "-999999999.999999999", "0.999999999", "1000000000", "1.000000000", "-0.000000001", "12345678901234567890.12345", "-18446744073709551616")
}

// samples answers right decimals: few, and such as are longer, of no pattern, and with points in all places.
func samples() []api.Dec {
	l := few()
	for _, s := range []string{"7", "70", "123456789", "9999999999999999999", "100000000000000000000000000000", "500000000000000000000000000001"} {
		coef := number(s).Coef
		for _, scale := range []int{0, 1, 8, 9, 10, 19, 29, 30, 40} {
			l = append(l, api.Dec{Coef: coef, Scale: scale}, api.Dec{Neg: true, Coef: coef, Scale: scale})
		}
	}
	seed := uint64(5)
	for n := range 24 {
		var coef api.Nat
		for range n%8 + 1 {
			seed = seed*6364136223846793005 + 1442695040888963407
			coef = append(coef, uint32(seed>>33)%top+1)
		}
		l = append(l, api.Dec{Neg: n%3 == 0, Coef: coef, Scale: n * 7 % 50})
	}
	return l
}

// twisted answers decimals that are not right, or of which nothing is promised for their scales.
func twisted() []api.Dec {
	var l []api.Dec
	coefs := []api.Nat{nil, {0}, {0, 0}, {5}, {5, 0}, {top + 1}, {math.MaxUint32}, {0, math.MaxUint32, 0}, {1, 2, 3}, slices.Repeat(api.Nat{math.MaxUint32}, 50)}
	for _, coef := range coefs {
		for _, scale := range []int{math.MinInt, math.MinInt + 1, -9, -1, 0, 2, math.MaxInt32, math.MaxInt - 1, math.MaxInt} {
			l = append(l, api.Dec{Coef: coef, Scale: scale}, api.Dec{Neg: true, Coef: coef, Scale: scale})
		}
	}
	return l
}

// is checks that got is right, and is written as want.
func is(t *testing.T, what string, got api.Dec, want string) {
	t.Helper()
	if !dec.Right(got) {
		t.Errorf("%s: %v is not right", what, got)
		return
	}
	if s := text(got); s != want {
		t.Errorf("%s: %s, want %s", what, s, want)
	}
}

// isWorth checks that got is right, of that scale, and worth want.
func isWorth(t *testing.T, what string, got api.Dec, want *big.Rat, scale int) {
	t.Helper()
	if !dec.Right(got) {
		t.Errorf("%s: %v is not right", what, got)
		return
	}
	if value(got).Cmp(want) != 0 || got.Scale != scale {
		t.Errorf("%s: %s, want %v with the scale %d", what, text(got), want, scale)
	}
}

// P5.1
func TestRight(t *testing.T) {
	for _, d := range append(samples(), api.Dec{}, api.Dec{Scale: 7}, api.Dec{Coef: api.Nat{}}, api.Dec{Coef: api.Nat{1}, Scale: finest + 1}, api.Dec{Scale: math.MaxInt}) {
		if !dec.Right(d) {
			t.Errorf("Right(%v): false", d)
		}
	}
	for _, d := range []api.Dec{
		{Neg: true}, {Neg: true, Coef: api.Nat{}}, {Neg: true, Scale: 2}, {Scale: -1}, {Coef: api.Nat{1}, Scale: -1}, {Coef: api.Nat{1}, Scale: math.MinInt},
		{Coef: api.Nat{0}}, {Coef: api.Nat{1, 0}}, {Coef: api.Nat{top + 1}}, {Coef: api.Nat{1, top + 1, 1}, Scale: 3}, {Neg: true, Coef: api.Nat{0}}, {Neg: true, Coef: api.Nat{math.MaxUint32}},
	} {
		if dec.Right(d) {
			t.Errorf("Right(%v): true", d)
		}
	}
}

// P5.2
func TestMake(t *testing.T) {
	tests := []struct {
		n, scale int
		want     string
	}{
		{0, 0, "0"}, {0, 2, "0.00"}, {0, -2, "0"}, {1, 0, "1"}, {-1, 0, "-1"}, {150, 2, "1.50"}, {-150, 2, "-1.50"}, {7, 3, "0.007"}, {-7, 1, "-0.7"},
		{5, -1, "5"}, {-5, math.MinInt, "-5"}, {1_000_000_000, 9, "1.000000000"}, {-999_999_999, 9, "-0.999999999"}, {1_000_000_005, 0, "1000000005"},
		{math.MaxInt, 0, "9223372036854775807"}, {math.MinInt, 0, "-9223372036854775808"}, {math.MinInt, 18, "-9.223372036854775808"}, {math.MinInt + 1, 19, "-0.9223372036854775807"},
	}
	for _, c := range tests {
		is(t, "Make", dec.Make(c.n, c.scale), c.want)
	}
	if got := dec.Make(7, finest); got.Scale != finest || !slices.Equal(got.Coef, api.Nat{7}) || got.Neg {
		t.Errorf("Make of the scale %d: %v", finest, got)
	}
}

// P5.3
func TestNegAndAbsAndSign(t *testing.T) {
	for _, d := range samples() {
		v := value(d)
		isWorth(t, "Neg", dec.Neg(d), new(big.Rat).Neg(v), d.Scale)
		isWorth(t, "Abs", dec.Abs(d), new(big.Rat).Abs(v), d.Scale)
		if got := dec.Sign(d); got != v.Sign() {
			t.Errorf("Sign(%s): %d", text(d), got)
		}
		if got := dec.Neg(dec.Neg(d)); !dec.Alike(got, d) {
			t.Errorf("the opposite's opposite of %s: %s", text(d), text(got))
		}
	}
	is(t, "Neg", dec.Neg(number("0.00")), "0.00")
	is(t, "Neg", dec.Neg(number("1.50")), "-1.50")
	is(t, "Abs", dec.Abs(number("-1.50")), "1.50")
}

// P5.4
func TestAlign(t *testing.T) {
	tests := []struct{ a, b, first, second string }{
		{"1", "2", "1", "2"}, {"1", "2.50", "1.00", "2.50"}, {"-1.5", "2", "-1.5", "2.0"}, {"0", "0.000", "0.000", "0.000"}, {"-0.1", "10.0000000000", "-0.1000000000", "10.0000000000"},
	}
	for _, c := range tests {
		first, second := dec.Align(number(c.a), number(c.b))
		is(t, "Align", first, c.first)
		is(t, "Align", second, c.second)
	}
	for _, a := range samples() {
		for _, b := range samples() {
			first, second := dec.Align(a, b)
			isWorth(t, "Align", first, value(a), max(a.Scale, b.Scale))
			isWorth(t, "Align", second, value(b), max(a.Scale, b.Scale))
		}
	}
}

// P5.5
func TestCmp(t *testing.T) {
	for _, a := range samples() {
		for _, b := range samples() {
			want := value(a).Cmp(value(b))
			if got := dec.Cmp(a, b); got != want {
				t.Errorf("Cmp(%s, %s): %d, want %d", text(a), text(b), got, want)
			}
			if got := dec.Same(a, b); got != (want == 0) {
				t.Errorf("Same(%s, %s): %v", text(a), text(b), got)
			}
		}
	}
}

// P5.5: values do not hang on how many noughts stand at the end.
func TestSameIsByValue(t *testing.T) {
	for _, d := range samples() {
		fine, _ := dec.Align(d, api.Dec{Scale: d.Scale + 11})
		if !dec.Same(d, fine) || !dec.Same(fine, d) {
			t.Errorf("%s and %s: not the same", text(d), text(fine))
		}
		if dec.Alike(d, fine) || dec.Alike(fine, d) {
			t.Errorf("%s and %s: alike", text(d), text(fine))
		}
	}
}

// P5.5
func TestAlike(t *testing.T) {
	l := samples()
	for _, a := range l {
		for _, b := range l {
			if got, want := dec.Alike(a, b), text(a) == text(b); got != want {
				t.Errorf("Alike(%s, %s): %v", text(a), text(b), got)
			}
		}
	}
	for _, d := range numbers("1.5", "-1.50", "1.51", "11.50", "15.0", "150") {
		if dec.Alike(number("1.50"), d) {
			t.Errorf("1.50 and %s: alike", text(d))
		}
	}
	if !dec.Alike(api.Dec{Coef: api.Nat{}}, api.Dec{}) {
		t.Error("nought of an empty list and of none: not alike")
	}
}

// P5.6
func TestAddAndSub(t *testing.T) {
	tests := []struct{ a, b, sum, rest string }{
		{"1.50", "2.5", "4.00", "-1.00"}, {"0", "0", "0", "0"}, {"0", "0.00", "0.00", "0.00"}, {"1", "-1", "0", "2"}, {"-1.0", "1.00", "0.00", "-2.00"}, {"-1", "-1", "-2", "0"},
		{"0.1", "0.2", "0.3", "-0.1"}, {"99.9", "0.10", "100.00", "99.80"}, {"-5", "0.001", "-4.999", "-5.001"}, {"999999999", "1", "1000000000", "999999998"},
		{"0.999999999", "0.000000001", "1.000000000", "0.999999998"}, {"-1000000000", "1", "-999999999", "-1000000001"},
	}
	for _, c := range tests {
		is(t, "Add", dec.Add(number(c.a), number(c.b)), c.sum)
		is(t, "Sub", dec.Sub(number(c.a), number(c.b)), c.rest)
	}
	for _, a := range samples() {
		for _, b := range samples() {
			isWorth(t, "Add", dec.Add(a, b), new(big.Rat).Add(value(a), value(b)), max(a.Scale, b.Scale))
			isWorth(t, "Sub", dec.Sub(a, b), new(big.Rat).Sub(value(a), value(b)), max(a.Scale, b.Scale))
		}
	}
}

// P5.7
func TestMul(t *testing.T) {
	tests := []struct{ a, b, want string }{
		{"1.50", "2.5", "3.750"}, {"0", "5", "0"}, {"0.0", "-5.00", "0.000"}, {"-0.5", "0.2", "-0.10"}, {"-3", "-3", "9"}, {"999999999", "-999999999", "-999999998000000001"}, {"0.01", "0.01", "0.0001"},
	}
	for _, c := range tests {
		is(t, "Mul", dec.Mul(number(c.a), number(c.b)), c.want)
	}
	for _, a := range samples() {
		for _, b := range samples() {
			isWorth(t, "Mul", dec.Mul(a, b), new(big.Rat).Mul(value(a), value(b)), a.Scale+b.Scale)
		}
	}
}

// P5.8
func TestSum(t *testing.T) {
	tests := []struct {
		l    []string
		want string
	}{
		{nil, "0"}, {[]string{"1.50"}, "1.50"}, {[]string{"0.000"}, "0.000"}, {[]string{"1.50", "2.5"}, "4.00"}, {[]string{"1", "-1.00", "0.5"}, "0.50"}, {[]string{"-1.5", "1", "0.5"}, "0.0"},
		{[]string{"1", "2", "3", "4", "5", "6"}, "21"}, {[]string{"0.001", "1000000000", "-1000000000", "-0.0010"}, "0.0000"},
	}
	for _, c := range tests {
		is(t, "Sum", dec.Sum(numbers(c.l...)...), c.want)
	}
	l := samples()
	want, scale := new(big.Rat), 0
	for n := range len(l) + 1 {
		isWorth(t, "Sum", dec.Sum(l[:n]...), want, scale)
		if n < len(l) {
			want.Add(want, value(l[n]))
			scale = max(scale, l[n].Scale)
		}
	}
	is(t, "Sum of three told one by one", dec.Sum(number("1"), number("0.1"), number("-0.01")), "1.09")
}

// P5.9
func TestStrip(t *testing.T) {
	tests := []struct {
		d     string
		least int
		want  string
	}{
		{"1.500", 0, "1.5"}, {"1.500", 1, "1.5"}, {"1.500", 2, "1.50"}, {"1.500", 3, "1.500"}, {"1.500", 4, "1.500"}, {"1.500", math.MaxInt, "1.500"}, {"1.500", -1, "1.5"}, {"1.500", math.MinInt, "1.5"},
		{"1500", 0, "1500"}, {"1500.00", 0, "1500"}, {"-1500.00", -7, "-1500"}, {"-0.100", 0, "-0.1"}, {"-0.100", 2, "-0.10"}, {"10.01", 0, "10.01"}, {"100", 5, "100"}, {"2.000000000000", 0, "2"}, {"2.000000000000", 10, "2.0000000000"},
		{"0", 0, "0"}, {"0", 3, "0"}, {"0.00", 0, "0"}, {"0.00", 1, "0.0"}, {"0.00", 2, "0.00"}, {"0.00", 3, "0.00"}, {"0.00", -1, "0"}, {"0.00", math.MinInt, "0"}, {"0.00", math.MaxInt, "0.00"},
	}
	for _, c := range tests {
		is(t, "Strip", dec.Strip(number(c.d), c.least), c.want)
	}
	for _, d := range samples() {
		for _, least := range []int{-3, 0, 1, 2, 5, 8, 9, 10, 20, 45, 60} {
			want, scale := text(d), d.Scale
			for scale > max(least, 0) && strings.HasSuffix(want, "0") {
				scale--
				want = strings.TrimSuffix(want[:len(want)-1], ".")
			}
			is(t, "Strip", dec.Strip(d, least), want)
		}
	}
}

// P5.10
func TestPower(t *testing.T) {
	tests := []struct {
		d    string
		n    int
		want string
	}{
		{"1.50", 0, "1"}, {"0", 0, "1"}, {"0.00", 0, "1"}, {"-7.5", 0, "1"}, {"1.50", 1, "1.50"}, {"-1.50", 1, "-1.50"}, {"1.50", 2, "2.2500"}, {"-1.5", 2, "2.25"}, {"-1.5", 3, "-3.375"},
		{"0.00", 1, "0.00"}, {"0.00", 3, "0.000000"}, {"0", 5, "0"}, {"10", 9, "1000000000"}, {"0.1", 9, "0.000000001"}, {"-0.1", 10, "0.0000000001"}, {"-1", 1001, "-1"},
	}
	for _, c := range tests {
		got, err := dec.Power(number(c.d), c.n)
		is(t, "Power", got, c.want)
		if err != api.OK {
			t.Errorf("Power(%s, %d): error %d", c.d, c.n, err)
		}
	}
	for _, d := range samples() {
		want := big.NewRat(1, 1)
		for n := range 8 {
			got, err := dec.Power(d, n)
			isWorth(t, "Power", got, want, n*d.Scale)
			if err != api.OK {
				t.Errorf("Power(%s, %d): error %d", text(d), n, err)
			}
			want.Mul(want, value(d))
		}
	}
}

// P5.10
func TestPowerBelowNought(t *testing.T) {
	for _, d := range samples() {
		for _, n := range []int{-1, -2, math.MinInt + 1, math.MinInt} {
			if got, err := dec.Power(d, n); err != api.ErrArg || got.Neg || len(got.Coef) != 0 || got.Scale != 0 {
				t.Errorf("Power(%s, %d): %v, %d, want nothing and ErrArg", text(d), n, got, err)
			}
		}
	}
}

// P5.10: of nought and of 1 each power is short, and is there at once.
func TestPowerOfNoughtAndOne(t *testing.T) {
	for _, n := range []int{1 << 40, math.MaxInt - 1, math.MaxInt} {
		for _, scale := range []int{0, 1} {
			got, err := dec.Power(api.Dec{Scale: scale}, n)
			if err != api.OK || !dec.Alike(got, api.Dec{Scale: n * scale}) {
				t.Errorf("nought to the %d: %v, %d", n, got, err)
			}
			got, err = dec.Power(api.Dec{Neg: true, Coef: api.Nat{1}, Scale: scale}, n)
			if err != api.OK || !dec.Alike(got, api.Dec{Neg: n%2 == 1, Coef: api.Nat{1}, Scale: n * scale}) {
				t.Errorf("-1 to the %d: %v, %d", n, got, err)
			}
		}
	}
}

// P5.11
func TestLeast(t *testing.T) {
	tests := []struct {
		l               []string
		least, greatest int
	}{
		{nil, -1, -1}, {[]string{"0"}, 0, 0}, {[]string{"1", "2", "3"}, 0, 2}, {[]string{"3", "2", "1"}, 2, 0}, {[]string{"2", "1", "3", "1.0", "3.00"}, 1, 2}, {[]string{"1.0", "1", "1.00"}, 0, 0},
		{[]string{"0", "-1", "-2", "5", "-2.0", "5.0"}, 2, 3}, {[]string{"-1", "-1.5", "-0.5"}, 1, 2}, {[]string{"9", "10", "10.01", "10.001"}, 0, 2}, {[]string{"0.00", "0", "0.0"}, 0, 0},
	}
	for _, c := range tests {
		if least, greatest := dec.Least(numbers(c.l...)); least != c.least || greatest != c.greatest {
			t.Errorf("Least(%v): %d, %d, want %d, %d", c.l, least, greatest, c.least, c.greatest)
		}
	}
	if least, greatest := dec.Least([]api.Dec{}); least != -1 || greatest != -1 {
		t.Errorf("Least of an empty list: %d, %d", least, greatest)
	}
	l := samples()
	for i := range l {
		isLeast(t, slices.Concat(l[i:], l[:i]))
	}
}

// isLeast checks that no one of l is below the least one, or above the greatest one, and none as far out stands ahead of them.
func isLeast(t *testing.T, l []api.Dec) {
	t.Helper()
	least, greatest := dec.Least(l)
	for i, d := range l {
		order := value(d).Cmp(value(l[least]))
		if order < 0 || order == 0 && i < least {
			t.Errorf("Least: %s, and %s at %d", text(l[least]), text(d), i)
		}
		order = value(d).Cmp(value(l[greatest]))
		if order > 0 || order == 0 && i < greatest {
			t.Errorf("Least: %s as the greatest, and %s at %d", text(l[greatest]), text(d), i)
		}
	}
}

// P5.12
func TestBetween(t *testing.T) {
	tests := []struct{ d, a, b, want string }{
		{"2", "1.0", "3.00", "2"}, {"0", "1.0", "3.00", "1.0"}, {"4", "1.0", "3.00", "3.00"}, {"1", "1.0", "3.00", "1"}, {"3", "1.0", "3.00", "3"}, {"-2.5", "-2.50", "-1", "-2.5"}, {"-3", "-2.50", "-1", "-2.50"}, {"0", "-2.50", "-1", "-1"},
		{"0", "5", "1.0", "5"}, {"3", "5", "1.0", "5"}, {"5.0", "5", "1.0", "1.0"}, {"7", "5", "1.0", "1.0"}, {"0.00", "0", "0.0", "0.00"}, {"0.01", "0", "0.0", "0.0"}, {"-0.01", "0", "0.0", "0"},
	}
	for _, c := range tests {
		is(t, "Between", dec.Between(number(c.d), number(c.a), number(c.b)), c.want)
	}
	l := few()
	for _, d := range l {
		for _, a := range l {
			for _, b := range l {
				want := d
				if value(d).Cmp(value(a)) < 0 {
					want = a
				} else if value(d).Cmp(value(b)) > 0 {
					want = b
				}
				is(t, "Between", dec.Between(d, a, b), text(want))
			}
		}
	}
}

// P5.13
func TestSumsAndProductsInAnyOrder(t *testing.T) {
	same := func(what string, a, b api.Dec) {
		t.Helper()
		if !dec.Same(a, b) {
			t.Errorf("%s: %s and %s", what, text(a), text(b))
		}
	}
	l := few()
	for _, a := range l {
		same("less itself", dec.Sub(a, a), api.Dec{})
		for _, b := range l {
			same("sum in the other order", dec.Add(a, b), dec.Add(b, a))
			same("product in the other order", dec.Mul(a, b), dec.Mul(b, a))
			same("what was added is taken away", dec.Sub(dec.Add(a, b), b), a)
			same("difference the other way round", dec.Sub(a, b), dec.Neg(dec.Sub(b, a)))
			for _, c := range l {
				same("sum in another way", dec.Add(dec.Add(a, b), c), dec.Add(a, dec.Add(b, c)))
				same("sum of three", dec.Sum(a, b, c), dec.Sum(c, a, b))
				same("product in another way", dec.Mul(dec.Mul(a, b), c), dec.Mul(a, dec.Mul(b, c)))
				same("product over a sum", dec.Mul(a, dec.Add(b, c)), dec.Add(dec.Mul(a, b), dec.Mul(a, c)))
			}
		}
	}
}

// P5.14
func TestPowersOfSums(t *testing.T) {
	for _, d := range samples() {
		for m := range 5 {
			for n := range 5 {
				first, _ := dec.Power(d, m)
				second, _ := dec.Power(d, n)
				both, err := dec.Power(d, m+n)
				if err != api.OK || !dec.Alike(both, dec.Mul(first, second)) {
					t.Errorf("%s to the %d and %d: %s", text(d), m, n, text(both))
				}
			}
		}
	}
}

// P5.4, P5.5, P5.6, P5.7, P5.9: with the greatest scale of which something is promised.
func TestFinestScale(t *testing.T) {
	noughts := strings.Repeat("0", finest-1)
	tiny := dec.Make(-1, finest)
	one := dec.Make(1, 0)
	fineOne, same := dec.Align(one, tiny)
	is(t, "Align", fineOne, "1."+noughts+"0")
	is(t, "Align", same, "-0."+noughts+"1")
	is(t, "Add", dec.Add(one, tiny), "0."+strings.Repeat("9", finest))
	is(t, "Sub", dec.Sub(one, tiny), "1."+noughts+"1")
	is(t, "Sum", dec.Sum(one, tiny, one, dec.Neg(tiny)), "2."+noughts+"0")
	is(t, "Strip", dec.Strip(fineOne, 0), "1")
	is(t, "Strip", dec.Strip(fineOne, finest-2), "1."+noughts[1:])
	is(t, "Mul", dec.Mul(tiny, dec.Make(7, 0)), "-0."+noughts+"7")
	if got := dec.Mul(tiny, tiny); !dec.Alike(got, dec.Make(1, 2*finest)) {
		t.Errorf("Mul: of the scale %d, %d limbs", got.Scale, len(got.Coef))
	}
	if got, err := dec.Power(tiny, 3); err != api.OK || !dec.Alike(got, dec.Make(-1, 3*finest)) {
		t.Errorf("Power: of the scale %d, %d limbs, %d", got.Scale, len(got.Coef), err)
	}
	if dec.Cmp(one, fineOne) != 0 || dec.Cmp(fineOne, one) != 0 || dec.Cmp(tiny, api.Dec{}) != -1 || dec.Cmp(dec.Sub(one, tiny), one) != 1 {
		t.Error("Cmp: not by value")
	}
	if least, greatest := dec.Least([]api.Dec{one, tiny, fineOne, dec.Sub(one, tiny)}); least != 1 || greatest != 3 {
		t.Errorf("Least: %d, %d", least, greatest)
	}
	is(t, "Between", dec.Between(tiny, api.Dec{}, one), "0")
}

// P5.13: products with the greatest scales go over sums.
func TestFinestProductsOverSums(t *testing.T) {
	a, b, c := dec.Make(-3, finest), dec.Make(7, finest), dec.Make(11, 0)
	left := dec.Mul(a, dec.Add(b, c))
	right := dec.Add(dec.Mul(a, b), dec.Mul(a, c))
	if !dec.Alike(left, right) || left.Scale != 2*finest || !left.Neg {
		t.Errorf("not the same: of the scales %d and %d", left.Scale, right.Scale)
	}
}

// callAll calls all that takes a and b, and answers the decimals that come of it.
func callAll(a, b api.Dec) []api.Dec {
	dec.Right(a)
	dec.Sign(a)
	dec.Cmp(a, b)
	dec.Same(a, b)
	dec.Alike(a, b)
	dec.Least([]api.Dec{a, b, a})
	first, second := dec.Align(a, b)
	l := []api.Dec{dec.Neg(a), dec.Abs(a), first, second, dec.Add(a, b), dec.Sub(a, b), dec.Mul(a, b), dec.Sum(a), dec.Sum(a, b), dec.Between(a, b, b), dec.Between(b, b, a), dec.Between(a, a, a)}
	for _, n := range []int{math.MinInt, -1, 0, 1, 3} {
		power, _ := dec.Power(a, n)
		l = append(l, power, dec.Strip(a, n))
	}
	return append(l, dec.Strip(a, math.MaxInt), dec.Make(b.Scale, a.Scale))
}

// R1
func TestNothingPanics(t *testing.T) {
	l := append(twisted(), few()...)
	for _, a := range l {
		for _, b := range l {
			callAll(a, b)
		}
	}
}

// R6: where scales together go beyond an int, they are the greatest one.
func TestScalesStayInts(t *testing.T) {
	for _, scale := range []int{math.MaxInt/2 + 1, math.MaxInt - 1, math.MaxInt} {
		d := api.Dec{Coef: api.Nat{1}, Scale: scale}
		if got := dec.Mul(d, d); got.Scale != math.MaxInt {
			t.Errorf("Mul with twice the scale %d: the scale %d", scale, got.Scale)
		}
		if got, err := dec.Power(d, 2); got.Scale != math.MaxInt || err != api.OK {
			t.Errorf("Power with twice the scale %d: the scale %d, %d", scale, got.Scale, err)
		}
	}
}

// P5.5: values are told apart without a digit being moved, so also where there is no room for that.
func TestCmpOfScalesFarApart(t *testing.T) {
	one, least := dec.Make(1, 0), dec.Make(1, math.MaxInt)
	if dec.Cmp(one, least) != 1 || dec.Cmp(least, one) != -1 || dec.Cmp(dec.Neg(one), dec.Neg(least)) != -1 || dec.Cmp(least, api.Dec{}) != 1 {
		t.Error("Cmp: not by value")
	}
}

// R1: scales that go beyond ints have powers that end too.
func TestPowersOfGreatScalesEnd(t *testing.T) {
	for _, coef := range []api.Nat{nil, {0}, {1}} {
		for _, scale := range []int{math.MinInt, -1, 2, math.MaxInt} {
			if got, err := dec.Power(api.Dec{Coef: coef, Scale: scale}, math.MaxInt); err != api.OK || got.Scale < 0 {
				t.Errorf("nought or 1 with the scale %d: %v, %d", scale, got, err)
			}
		}
	}
}

// roomy answers d with room behind the end of its digits, and all of that room.
func roomy(d api.Dec) (api.Dec, api.Nat) {
	room := slices.Concat(d.Coef, api.Nat{77, 77, 77, 77})
	d.Coef = room[:len(d.Coef)]
	return d, room
}

// R3, R4: answers are new, and what is done to one changes neither what was handed in nor another answer.
func TestMemoryIsNew(t *testing.T) {
	l := append(few(), api.Dec{Coef: slices.Repeat(api.Nat{top}, 60), Scale: 3}, api.Dec{Neg: true, Coef: api.Nat{5, 0}, Scale: -1}, api.Dec{Coef: slices.Repeat(api.Nat{math.MaxUint32}, 9)})
	for _, a := range l {
		for _, b := range l {
			first, firstRoom := roomy(a)
			second, secondRoom := roomy(b)
			areApart(t, callAll(first, second), callAll(first, second))
			areApart(t, callAll(first, first), callAll(first, first))
			if !slices.Equal(firstRoom, slices.Concat(a.Coef, api.Nat{77, 77, 77, 77})) || !slices.Equal(secondRoom, slices.Concat(b.Coef, api.Nat{77, 77, 77, 77})) {
				t.Fatalf("%v or %v was changed, or is shared", a, b)
			}
		}
	}
}

// areApart checks that both lists of answers are alike, and that each answer stays as it is when the room of all others is written to.
func areApart(t *testing.T, first, second []api.Dec) {
	t.Helper()
	for i := range first {
		if !dec.Alike(first[i], second[i]) {
			t.Errorf("%v at first, and %v then", first[i], second[i])
		}
	}
	for i, d := range first {
		if !dec.Alike(d, second[i]) {
			t.Errorf("answer %d shares room with another one", i)
		}
		fill(d.Coef)
	}
}

// fill writes to all the room of a.
func fill(a api.Nat) {
	a = a[:cap(a)]
	for i := range a {
		a[i] = 55
	}
}

// R3
func TestListsStay(t *testing.T) {
	first, room := roomy(number("123456789012.50"))
	l := []api.Dec{first, number("-1"), number("7.25"), number("88")}
	want := []string{"123456789012.50", "-1", "7.25", "88"}
	fill(dec.Sum(l[:3]...).Coef)
	fill(dec.Sum(l[:1]...).Coef)
	dec.Least(l[:3])
	for i, d := range l {
		if text(d) != want[i] {
			t.Errorf("%s became %s", want[i], text(d))
		}
	}
	if !slices.Equal(room[len(first.Coef):], api.Nat{77, 77, 77, 77}) {
		t.Error("the room behind a number's end was written to")
	}
}

// P5.6, P5.8: a sum that grows and goes away again leaves no noughts among its limbs.
func TestSumsAreTrimmed(t *testing.T) {
	long := number(strings.Repeat("9", 100) + ".5")
	if got := dec.Sub(long, long); !nat.Same(got.Coef, nil) || got.Neg || got.Scale != 1 {
		t.Errorf("less itself: %v", got)
	}
	is(t, "Sum", dec.Sum(long, number("0.5"), dec.Neg(long)), "0.5")
}
