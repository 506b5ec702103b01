package round_test

import (
	"math"
	"math/big"
	"slices"
	"strings"
	"testing"

	"quittance/api"
	"quittance/dec"
	"quittance/digits"
	"quittance/nat"
	"quittance/round"
)

const (
	top = 999_999_999

	// finest is the greatest scale of which the chapter promises something.
	finest = 1_000_000
)

// ten answers 10 to the n, told by the library's own numbers.
func ten(n int) *big.Int {
	return new(big.Int).Exp(big.NewInt(10), big.NewInt(int64(n)), nil)
}

// value answers what d is worth, told by the library's own numbers.
func value(d api.Dec) *big.Rat {
	n := new(big.Int)
	for i := len(d.Coef) - 1; i >= 0; i-- {
		n.Mul(n, big.NewInt(top+1))
		n.Add(n, big.NewInt(int64(d.Coef[i])))
	}
	if d.Neg {
		n.Neg(n)
	}
	return new(big.Rat).SetFrac(n, ten(d.Scale))
}

// number answers the decimal that is written as s: a minus or none, digits, and a point with digits behind it or none.
func number(s string) api.Dec {
	left, neg := strings.CutPrefix(s, "-")
	front, behind, _ := strings.Cut(left, ".")
	coef, err := digits.Parse(front + behind)
	if err != api.OK {
		panic(s)
	}
	return api.Dec{Neg: neg && len(coef) > 0, Coef: coef, Scale: len(behind)}
}

// numbers answers the decimals that are written so.
func numbers(l ...string) []api.Dec {
	var all []api.Dec
	for _, s := range l {
		all = append(all, number(s))
	}
	return all
}

// text answers d as number reads it.
func text(d api.Dec) string {
	s := digits.Text(d.Coef)
	if d.Scale > 0 {
		s = strings.Repeat("0", max(d.Scale+1-len(s), 0)) + s
		s = s[:len(s)-d.Scale] + "." + s[len(s)-d.Scale:]
	}
	if d.Neg {
		return "-" + s
	}
	return s
}

// texts answers all of l as number reads them, with blanks between.
func texts(l []api.Dec) string {
	var all []string
	for _, d := range l {
		all = append(all, text(d))
	}
	return strings.Join(all, " ")
}

// few answers right decimals: nought, those about 1 and about halves, of both signs, with noughts at the end, and at the edges of limbs.
func few() []api.Dec {
	return numbers("0", "0.00", "1", "-1", "1.000", "0.1", "-0.5", "0.50", "1.5", "2.5", "-2.5", "3.5", "0.49", "-0.51", "2.500000000000000000001", "-0.25", "0.35", "0.7", "3", "7", "-7.00", "10", "0.001",
		"999999999", "-999999999.5", "0.999999999", "1000000000.0", "0.000000000500000000", "-12345678901234567890.12345", "0.00000000000000000000000000000000005", "100000000000000000000000000000.5")
}

// samples answers right decimals: few, and such as have no pattern, with points in all places.
func samples() []api.Dec {
	l := few()
	seed := uint64(6)
	for n := range 24 {
		var coef api.Nat
		for range n%6 + 1 {
			seed = seed*6364136223846793005 + 1442695040888963407
			coef = append(coef, uint32(seed>>33)%top+1)
		}
		l = append(l, api.Dec{Neg: n%3 == 0, Coef: coef, Scale: n * 7 % 45})
	}
	return l
}

// twisted answers decimals that are not right, or of which nothing is promised for their scales.
func twisted() []api.Dec {
	var l []api.Dec
	for i, coef := range []api.Nat{nil, {0}, {0, 0}, {5}, {5, 0}, {top + 1}, {0, math.MaxUint32, 0}, slices.Repeat(api.Nat{math.MaxUint32}, 45)} {
		for j, scale := range []int{math.MinInt, -1, 2, math.MaxInt} {
			l = append(l, api.Dec{Neg: (i+j)%2 == 0, Coef: coef, Scale: scale})
		}
	}
	return l
}

// near answers how the decimal of that scale nearest to v is written, of two as near the one whose last digit is even.
func near(v *big.Rat, scale int) string {
	scale = max(scale, 0)
	v = new(big.Rat).Mul(v, new(big.Rat).SetInt(ten(scale)))
	n, rest := new(big.Int).QuoRem(new(big.Int).Abs(v.Num()), v.Denom(), new(big.Int))
	order := rest.Lsh(rest, 1).Cmp(v.Denom())
	if order > 0 || order == 0 && n.Bit(0) == 1 {
		n.Add(n, big.NewInt(1))
	}
	coef, _ := digits.Parse(n.String())
	return text(api.Dec{Neg: v.Sign() < 0 && len(coef) > 0, Coef: coef, Scale: scale})
}

// is checks that got is right, and is written as want.
func is(t *testing.T, what string, got api.Dec, want string) {
	t.Helper()
	if !dec.Right(got) {
		t.Errorf("%s: %v is not right", what, got)
		return
	}
	if s := text(got); s != want {
		t.Errorf("%s: %s, want %s", what, s, want)
	}
}

// isNothing checks that err is want, and that got is zero beside it.
func isNothing(t *testing.T, what string, got api.Dec, err, want api.Errno) {
	t.Helper()
	if err != want || got.Neg || len(got.Coef) != 0 || got.Scale != 0 {
		t.Errorf("%s: %v, %d, want nothing and %d", what, got, err, want)
	}
}

// P6.1
func TestQuantize(t *testing.T) {
	tests := []struct {
		d     string
		scale int
		want  string
	}{
		{"2.5", 0, "2"}, {"3.5", 0, "4"}, {"-2.5", 0, "-2"}, {"-3.5", 0, "-4"}, {"0.5", 0, "0"}, {"-0.5", 0, "0"}, {"1.5", 0, "2"}, {"-1.5", 0, "-2"},
		{"2.51", 0, "3"}, {"2.49", 0, "2"}, {"2.5000000000000000000000000001", 0, "3"}, {"2.4999999999999999999999999999", 0, "2"}, {"0.50000000000000000000000000", 0, "0"}, {"-0.50000000000000000000000001", 0, "-1"},
		{"1.005", 2, "1.00"}, {"1.015", 2, "1.02"}, {"1.0151", 2, "1.02"}, {"1.025", 2, "1.02"}, {"-1.025", 2, "-1.02"}, {"0.999", 2, "1.00"}, {"-9.995", 2, "-10.00"}, {"99.5", 0, "100"}, {"98.5", 0, "98"},
		{"0.004", 2, "0.00"}, {"-0.004", 2, "0.00"}, {"-0.005", 2, "0.00"}, {"-0.006", 2, "-0.01"}, {"0", 0, "0"}, {"0", 3, "0.000"}, {"0.000", 1, "0.0"}, {"0.000", 0, "0"},
		{"1", 3, "1.000"}, {"-1.5", 3, "-1.500"}, {"1.50", 2, "1.50"}, {"-1.50", 2, "-1.50"}, {"7", 12, "7.000000000000"}, {"999999999.5", 0, "1000000000"}, {"0.9999999995", 9, "1.000000000"},
		{"2.5", -1, "2"}, {"3.5", -7, "4"}, {"25", -1, "25"}, {"-0.7", math.MinInt, "-1"}, {"0.0", math.MinInt, "0"},
	}
	for _, c := range tests {
		is(t, "Quantize of "+c.d, round.Quantize(number(c.d), c.scale), c.want)
	}
	for _, d := range samples() {
		for _, scale := range []int{-3, 0, 1, 2, 5, 8, 9, 10, 17, 18, 19, 26, 27, 33, 34, 35, 44, 60} {
			is(t, "Quantize of "+text(d), round.Quantize(d, scale), near(value(d), scale))
		}
	}
}

// P6.1: what decides may stand as far behind as it will, and in any digit of a limb.
func TestQuantizeByTheLastDigit(t *testing.T) {
	for n := range 60 {
		noughts, nines := strings.Repeat("0", n), strings.Repeat("9", n)
		for _, front := range []string{"0", "1", "8", "123456788", "123456789", "999999999", "999999998999999999"} {
			next := text(dec.Add(number(front), dec.Make(1, 0)))
			even := front
			if !nat.Even(number(front).Coef) {
				even = next
			}
			is(t, "half", round.Quantize(number(front+".5"+noughts), 0), even)
			is(t, "just above half", round.Quantize(number(front+".5"+noughts+"1"), 0), next)
			is(t, "just above half", round.Quantize(number(front+".5"+noughts+"1"+strings.Repeat("0", 27)), 0), next)
			is(t, "just below half", round.Quantize(number(front+".4"+nines+"9"), 0), front)
			is(t, "just above it", round.Quantize(number(front+".0"+noughts+"1"), 0), front)
			is(t, "just below the next", round.Quantize(number(front+".9"+nines+"9"), 0), next)
			is(t, "in the last but one place", round.Quantize(number(front+"."+noughts+"25"), n+1), front+"."+noughts+"2")
			is(t, "in the last but one place", round.Quantize(number("-"+front+"."+noughts+"35"), n+1), "-"+front+"."+noughts+"4")
		}
	}
}

// P6.2
func TestDiv(t *testing.T) {
	tests := []struct {
		a, b  string
		scale int
		want  string
	}{
		{"1", "3", 0, "0"}, {"1", "3", 2, "0.33"}, {"2", "3", 2, "0.67"}, {"-2", "3", 2, "-0.67"}, {"2", "-3", 2, "-0.67"}, {"-2", "-3", 2, "0.67"}, {"10", "4", 0, "2"}, {"14", "4", 0, "4"}, {"-10", "4", 0, "-2"}, {"14", "-4", 0, "-4"},
		{"1", "8", 2, "0.12"}, {"3", "8", 2, "0.38"}, {"1", "8", 3, "0.125"}, {"1", "8", 5, "0.12500"}, {"1", "2", 0, "0"}, {"3", "2", 0, "2"}, {"-1", "2", 0, "0"}, {"-1", "3", 0, "0"}, {"1.00", "0.25", 0, "4"}, {"1.00", "0.25", 2, "4.00"},
		{"0.001", "1000", 5, "0.00000"}, {"0.001", "1000", 6, "0.000001"}, {"0.001", "2000", 6, "0.000000"}, {"0.003", "2000", 6, "0.000002"}, {"1000", "0.001", 1, "1000000.0"}, {"0", "7", 2, "0.00"}, {"0.000", "-7", 0, "0"}, {"-0.0", "7.5", 1, "0.0"},
		{"7", "1", 0, "7"}, {"7", "1", -4, "7"}, {"5", "2", math.MinInt, "2"}, {"1000000000", "999999999", 9, "1.000000001"}, {"1", "1000000000000000000000", 21, "0.000000000000000000001"}, {"5", "10000000000000000000000", 21, "0.000000000000000000000"}, {"15", "10000000000000000000000", 21, "0.000000000000000000002"},
	}
	for _, c := range tests {
		got, err := round.Div(number(c.a), number(c.b), c.scale)
		is(t, "Div of "+c.a+" by "+c.b, got, c.want)
		if err != api.OK {
			t.Errorf("Div(%s, %s, %d): error %d", c.a, c.b, c.scale, err)
		}
	}
	l := samples()
	for _, a := range l {
		for _, b := range l {
			if dec.Sign(b) == 0 {
				continue
			}
			for _, scale := range []int{-1, 0, 2, 9, 20, 40} {
				got, err := round.Div(a, b, scale)
				is(t, "Div of "+text(a)+" by "+text(b), got, near(new(big.Rat).Quo(value(a), value(b)), scale))
				if err != api.OK {
					t.Errorf("Div(%s, %s, %d): error %d", text(a), text(b), scale, err)
				}
			}
		}
	}
}

// P6.2
func TestDivByNought(t *testing.T) {
	for _, a := range samples() {
		for _, b := range numbers("0", "0.0", "0.000000000000") {
			for _, scale := range []int{math.MinInt, -1, 0, 2, finest} {
				got, err := round.Div(a, b, scale)
				isNothing(t, "Div of "+text(a)+" by nought", got, err, api.ErrZero)
			}
		}
	}
}

// P6.3, P6.4
func TestUnitAndHalf(t *testing.T) {
	tests := []struct {
		scale      int
		unit, half string
	}{
		{0, "1", "0.5"}, {1, "0.1", "0.05"}, {2, "0.01", "0.005"}, {9, "0.000000001", "0.0000000005"}, {-1, "1", "0.5"}, {-12, "1", "0.5"}, {math.MinInt, "1", "0.5"},
	}
	for _, c := range tests {
		is(t, "Unit", round.Unit(c.scale), c.unit)
		is(t, "Half", round.Half(c.scale), c.half)
	}
	for _, scale := range []int{0, 1, 8, 9, 10, 100, finest} {
		if got := round.Unit(scale); !dec.Alike(got, api.Dec{Coef: api.Nat{1}, Scale: scale}) {
			t.Errorf("Unit(%d): %v", scale, got)
		}
		if got := round.Half(scale); !dec.Alike(got, api.Dec{Coef: api.Nat{5}, Scale: scale + 1}) {
			t.Errorf("Half(%d): %v", scale, got)
		}
	}
}

// P6.5
func TestExact(t *testing.T) {
	tests := []struct {
		d     string
		scale int
		want  bool
	}{
		{"1.50", 0, false}, {"1.50", 1, true}, {"1.50", 2, true}, {"1.50", 3, true}, {"-1.05", 1, false}, {"-1.05", 2, true}, {"1.00", 0, true}, {"1.00", -1, true}, {"1.00", math.MinInt, true}, {"0.1", -1, false}, {"0.1", math.MinInt, false},
		{"10", 0, true}, {"10", -5, true}, {"7", -1, true}, {"7", 30, true}, {"0", 0, true}, {"0.000", 0, true}, {"0.000", -2, true}, {"0.0000000001", 9, false}, {"0.0000000001", 10, true}, {"0.0000000010", 9, true}, {"1000000000.000000000", 0, true}, {"1.000000000000000000001", 20, false},
	}
	for _, c := range tests {
		if got := round.Exact(number(c.d), c.scale); got != c.want {
			t.Errorf("Exact(%s, %d): %v", c.d, c.scale, got)
		}
	}
	for _, d := range samples() {
		for scale := -2; scale < 50; scale++ {
			moved := new(big.Rat).Mul(value(d), new(big.Rat).SetInt(ten(max(scale, 0))))
			if got := round.Exact(d, scale); got != moved.IsInt() {
				t.Errorf("Exact(%s, %d): %v", text(d), scale, got)
			}
		}
	}
}

// P6.6
func TestShare(t *testing.T) {
	tests := []struct {
		total, part, whole string
		scale              int
		want               string
	}{
		{"100", "1", "3", 2, "33.33"}, {"100", "2", "3", 2, "66.67"}, {"-100", "2", "3", 2, "-66.67"}, {"100", "2", "-3", 2, "-66.67"}, {"100", "-2", "-3", 0, "67"}, {"10", "1", "4", 0, "2"}, {"10", "3", "4", 0, "8"}, {"0", "1", "4", 1, "0.0"}, {"10", "0.00", "4", 1, "0.0"},
		{"0.3", "0.5", "0.1", 0, "2"}, {"0.5", "0.5", "0.1", 0, "2"}, {"0.7", "0.5", "0.1", 0, "4"}, {"9.99", "5", "1", -3, "50"}, {"0.0004", "0.005", "0.000001", 0, "2"}, {"3", "1", "3", 4, "1.0000"},
	}
	for _, c := range tests {
		got, err := round.Share(number(c.total), number(c.part), number(c.whole), c.scale)
		is(t, "Share", got, c.want)
		if err != api.OK {
			t.Errorf("Share(%s, %s, %s, %d): error %d", c.total, c.part, c.whole, c.scale, err)
		}
	}
	l := few()
	for _, total := range l {
		for _, part := range l {
			for _, whole := range l {
				got, err := round.Share(total, part, whole, 2)
				if dec.Sign(whole) == 0 {
					isNothing(t, "Share", got, err, api.ErrZero)
					continue
				}
				v := new(big.Rat).Mul(value(total), value(part))
				is(t, "Share", got, near(v.Quo(v, value(whole)), 2))
				if err != api.OK {
					t.Errorf("Share(%s, %s, %s, 2): error %d", text(total), text(part), text(whole), err)
				}
			}
		}
	}
}

// P6.7
func TestAllocate(t *testing.T) {
	tests := []struct {
		total string
		parts []string
		scale int
		want  string
	}{
		{"100", []string{"1", "1", "1"}, 2, "33.34 33.33 33.33"}, {"-100", []string{"1", "1", "1"}, 2, "-33.34 -33.33 -33.33"}, {"100.00", []string{"1", "1", "1"}, 0, "34 33 33"}, {"101", []string{"1", "1", "1"}, 0, "34 34 33"}, {"-101", []string{"1", "1", "1"}, 0, "-34 -34 -33"},
		{"10", []string{"1", "2", "3"}, 0, "2 3 5"}, {"10", []string{"3", "2", "1"}, 0, "5 3 2"}, {"10", []string{"6", "6", "1"}, 0, "5 4 1"}, {"5", []string{"1", "8", "1"}, 0, "1 4 0"}, {"5", []string{"8", "1", "1"}, 0, "4 1 0"}, {"1", []string{"1", "2", "2"}, 0, "0 1 0"}, {"2", []string{"1", "2", "2"}, 0, "0 1 1"},
		{"7", []string{"5"}, 0, "7"}, {"7", []string{"5"}, 2, "7.00"}, {"7.5", []string{"0", "5", "0.00"}, 1, "0.0 7.5 0.0"}, {"-7.5", []string{"0", "5", "0.00"}, 1, "0.0 -7.5 0.0"}, {"0", []string{"1", "2"}, 2, "0.00 0.00"}, {"0.000", []string{"1", "2"}, 0, "0 0"},
		{"0.01", []string{"1", "1"}, 2, "0.01 0.00"}, {"-0.01", []string{"1", "1"}, 2, "-0.01 0.00"}, {"0.01", []string{"0", "1", "1"}, 2, "0.00 0.01 0.00"}, {"0.02", []string{"1", "1", "1"}, 2, "0.01 0.01 0.00"}, {"1.00", []string{"0.5", "0.25", "0.2500"}, 2, "0.50 0.25 0.25"},
		{"1.10", []string{"0.001", "1000"}, 1, "0.0 1.1"}, {"5.00", []string{"1", "1"}, -2, "3 2"}, {"5", []string{"1", "1"}, math.MinInt, "3 2"}, {"1000000000", []string{"1", "999999999"}, 0, "1 999999999"}, {"1000000001", []string{"1", "1"}, 0, "500000001 500000000"},
	}
	for _, c := range tests {
		got, err := round.Allocate(number(c.total), numbers(c.parts...), c.scale)
		if texts(got) != c.want || err != api.OK {
			t.Errorf("Allocate(%s, %v, %d): %s, %d, want %s", c.total, c.parts, c.scale, texts(got), err, c.want)
		}
	}
}

// P6.7
func TestAllocateWhatCannotBe(t *testing.T) {
	tests := []struct {
		total string
		parts []string
		scale int
		want  api.Errno
	}{
		{"1", nil, 0, api.ErrZero}, {"1", []string{"0"}, 0, api.ErrZero}, {"0", []string{"0", "0.00"}, 0, api.ErrZero}, {"0", nil, 2, api.ErrZero}, {"1", []string{"-1"}, 0, api.ErrArg}, {"1", []string{"5", "2", "-0.001"}, 0, api.ErrArg}, {"1", []string{"1", "-1"}, 0, api.ErrArg}, {"1", []string{"-1", "0"}, 0, api.ErrArg},
		{"1.5", []string{"1"}, 0, api.ErrZero}, {"1.505", []string{"1", "2"}, 2, api.ErrZero}, {"-1.505", []string{"1", "2"}, 2, api.ErrZero}, {"1.5", []string{"1"}, -1, api.ErrZero}, {"1.5", []string{"1"}, math.MinInt, api.ErrZero}, {"1.5", []string{"-1", "3"}, 0, api.ErrArg}, {"1.5", []string{"1", "-1"}, 0, api.ErrArg}, {"1.5", nil, 0, api.ErrZero},
	}
	for _, c := range tests {
		got, err := round.Allocate(number(c.total), numbers(c.parts...), c.scale)
		if len(got) != 0 || err != c.want {
			t.Errorf("Allocate(%s, %v, %d): %s, %d, want nothing and %d", c.total, c.parts, c.scale, texts(got), err, c.want)
		}
	}
	if got, err := round.Allocate(number("1"), []api.Dec{}, 0); len(got) != 0 || err != api.ErrZero {
		t.Errorf("Allocate to an empty list: %s, %d", texts(got), err)
	}
}

// allocated answers, by the library's own numbers, how many units each part gets of total, which has so many.
func allocated(total *big.Int, parts []*big.Rat) []int64 {
	all := new(big.Rat)
	for _, part := range parts {
		all.Add(all, part)
	}
	var units []int64
	var left []*big.Rat
	missing := total.Int64()
	for _, part := range parts {
		share := new(big.Rat).Mul(new(big.Rat).SetInt(total), part)
		share.Quo(share, all)
		floor := new(big.Int).Quo(share.Num(), share.Denom())
		units = append(units, floor.Int64())
		left = append(left, share.Sub(share, new(big.Rat).SetInt(floor)))
		missing -= floor.Int64()
	}
	for ; missing > 0; missing-- {
		most := 0
		for i := range left {
			if left[i].Cmp(left[most]) > 0 {
				most = i
			}
		}
		units[most]++
		left[most] = big.NewRat(-1, 1)
	}
	return units
}

// lists answers lists of parts, none below 0, and not all 0.
func lists() [][]api.Dec {
	l := [][]api.Dec{
		numbers("1"), numbers("1", "1"), numbers("1", "1", "1"), numbers("3", "0", "3.00", "1"), numbers("0", "0.1", "0.20", "0.300"), numbers("0.0000000000000000000001", "1"), numbers("7", "11", "13", "17", "19"),
		numbers("99999999999999999999", "1", "0.5"), numbers("0.333", "0.3330", "0.334"), slices.Repeat(numbers("2", "1"), 15),
	}
	var some []api.Dec
	for _, d := range samples() {
		some = append(some, dec.Abs(d))
		if dec.Sign(dec.Sum(some...)) > 0 && len(some)%5 == 0 {
			l = append(l, some[len(some)/2:], some)
		}
	}
	return l
}

// P6.7, P6.10
func TestAllocateIsFair(t *testing.T) {
	for _, parts := range lists() {
		var worths []*big.Rat
		for _, part := range parts {
			worths = append(worths, value(part))
		}
		for _, n := range []int{0, 1, 2, 3, 10, 99, 100, 101, 12345, 999_999_999, 1_000_000_000, 1<<62 + 1} {
			for _, scale := range []int{0, 1, 2, 9, 30} {
				want := allocated(big.NewInt(int64(n)), worths)
				for _, sign := range []int{1, -1} {
					got, err := round.Allocate(dec.Make(sign*n, scale), parts, scale)
					var l []api.Dec
					for _, units := range want {
						l = append(l, dec.Make(sign*int(units), scale))
					}
					if texts(got) != texts(l) || err != api.OK {
						t.Errorf("Allocate(%d of scale %d, %s): %s, %d, want %s", sign*n, scale, texts(parts), texts(got), err, texts(l))
					}
				}
			}
		}
	}
}

// P6.10
func TestAllocatedSumsToTotal(t *testing.T) {
	for _, total := range samples() {
		for _, parts := range lists() {
			for _, more := range []int{0, 1, 12} {
				scale := total.Scale + more
				got, err := round.Allocate(total, parts, scale)
				if err != api.OK || len(got) != len(parts) || !dec.Same(dec.Sum(got...), total) {
					t.Fatalf("Allocate(%s, %s, %d): %s, %d", text(total), texts(parts), scale, texts(got), err)
				}
				whole, unit := value(dec.Sum(parts...)), value(round.Unit(scale))
				for i, part := range parts {
					off := new(big.Rat).Mul(value(total), value(part))
					off.Sub(off.Quo(off, whole), value(got[i]))
					if off.Abs(off).Cmp(unit) >= 0 || got[i].Scale != scale || !dec.Right(got[i]) || dec.Sign(got[i])*dec.Sign(total) < 0 {
						t.Errorf("Allocate(%s, %s, %d): %s at %d", text(total), texts(parts), scale, text(got[i]), i)
					}
				}
			}
		}
	}
}

// P6.8
func TestMoney(t *testing.T) {
	tests := []struct{ d, unit, want string }{
		{"2.37", "0.05", "2.35"}, {"2.38", "0.05", "2.40"}, {"2.375", "0.05", "2.40"}, {"2.325", "0.05", "2.30"}, {"-2.375", "0.05", "-2.40"}, {"-2.325", "0.05", "-2.30"}, {"2.5", "1", "2"}, {"3.5", "1", "4"}, {"2.5", "1.00", "2.00"}, {"7", "2", "8"}, {"5", "2", "4"}, {"-5", "2", "-4"},
		{"0.01", "0.05", "0.00"}, {"-0.01", "0.05", "0.00"}, {"-0.025", "0.05", "0.00"}, {"0", "0.25", "0.00"}, {"0.0000", "3", "0"}, {"1234.56", "100", "1200"}, {"1250", "100", "1200"}, {"1350", "100", "1400"}, {"1", "0.3", "0.9"}, {"1", "0.30", "0.90"}, {"12345678901234567890.5", "1", "12345678901234567890"},
	}
	for _, c := range tests {
		got, err := round.Money(number(c.d), number(c.unit))
		is(t, "Money of "+c.d+" by "+c.unit, got, c.want)
		if err != api.OK {
			t.Errorf("Money(%s, %s): error %d", c.d, c.unit, err)
		}
	}
	for _, d := range samples() {
		for _, unit := range samples() {
			got, err := round.Money(d, unit)
			if dec.Sign(unit) <= 0 {
				isNothing(t, "Money of "+text(d)+" by "+text(unit), got, err, api.ErrArg)
				continue
			}
			count := number(near(new(big.Rat).Quo(value(d), value(unit)), 0))
			is(t, "Money of "+text(d)+" by "+text(unit), got, text(dec.Mul(count, unit)))
			if err != api.OK || got.Scale != unit.Scale {
				t.Errorf("Money(%s, %s): %s, %d", text(d), text(unit), text(got), err)
			}
		}
	}
}

// P6.9
func TestQuantizedIsNear(t *testing.T) {
	for _, d := range samples() {
		for scale := -2; scale < 50; scale++ {
			got := round.Quantize(d, scale)
			if dec.Cmp(dec.Abs(dec.Sub(d, got)), round.Half(scale)) > 0 || got.Scale != max(scale, 0) {
				t.Errorf("Quantize(%s, %d): %s", text(d), scale, text(got))
			}
			if again := round.Quantize(got, scale); !dec.Alike(again, got) {
				t.Errorf("Quantize(%s, %d): %s, and %s again", text(d), scale, text(got), text(again))
			}
			if same := dec.Same(got, d); same != round.Exact(d, scale) {
				t.Errorf("Quantize(%s, %d): %s, though Exact tells %v", text(d), scale, text(got), !same)
			}
		}
	}
}

// P6.1 to P6.8: with the greatest scale of which something is promised.
func TestFinestScale(t *testing.T) {
	noughts, threes := strings.Repeat("0", finest), strings.Repeat("3", finest)
	tiny, one, three := dec.Make(1, finest), dec.Make(1, 0), dec.Make(3, 0)
	is(t, "Quantize", round.Quantize(one, finest), "1."+noughts)
	is(t, "Quantize", round.Quantize(tiny, 0), "0")
	is(t, "Quantize", round.Quantize(dec.Add(dec.Make(25, 1), tiny), 0), "3")
	is(t, "Quantize", round.Quantize(dec.Sub(dec.Make(35, 1), tiny), 0), "3")
	is(t, "Quantize", round.Quantize(dec.Make(-15, finest), finest-1), "-0."+noughts[2:]+"2")
	third, err := round.Div(one, three, finest)
	is(t, "Div", third, "0."+threes)
	again, err2 := round.Div(round.Quantize(one, finest), round.Quantize(three, finest), finest)
	is(t, "Div", again, "0."+threes)
	large, err3 := round.Div(one, dec.Make(3, finest), 0)
	is(t, "Div", large, threes)
	small, err4 := round.Div(tiny, three, finest)
	is(t, "Div", small, "0."+noughts)
	share, err5 := round.Share(dec.Make(5, finest), dec.Make(4, finest), dec.Make(3, finest), finest)
	is(t, "Share", share, "0."+noughts[1:]+"7")
	money, err6 := round.Money(one, dec.Make(3, finest))
	is(t, "Money", money, "0."+strings.Repeat("9", finest))
	if err != api.OK || err2 != api.OK || err3 != api.OK || err4 != api.OK || err5 != api.OK || err6 != api.OK {
		t.Error("an error where there is none")
	}
	if !round.Exact(one, finest) || !round.Exact(tiny, finest) || round.Exact(tiny, finest-1) || !round.Exact(round.Quantize(one, finest), 0) {
		t.Error("Exact: not by value")
	}
	got, err := round.Allocate(one, []api.Dec{tiny, dec.Make(2, finest)}, finest)
	if err != api.OK || texts(got) != "0."+threes+" 0."+strings.Repeat("6", finest-1)+"7" {
		t.Error("Allocate: not a third and two thirds")
	}
}

// callAll calls all that takes a and b, and answers the decimals that come of it.
func callAll(a, b api.Dec, scale int) []api.Dec {
	round.Exact(a, scale)
	quotient, _ := round.Div(a, b, scale)
	share, _ := round.Share(a, b, b, scale)
	money, _ := round.Money(a, b)
	l := []api.Dec{round.Quantize(a, scale), quotient, share, money, round.Unit(scale), round.Half(scale)}
	for _, parts := range [][]api.Dec{{b}, {a, b, a}} {
		shares, _ := round.Allocate(a, parts, scale)
		l = append(l, shares...)
	}
	return l
}

// R1
func TestNothingPanics(t *testing.T) {
	l := append(twisted(), numbers("0", "1", "-2.50", "7.5")...)
	for _, a := range l {
		for _, b := range l {
			for _, scale := range []int{math.MinInt, 0, 3} {
				callAll(a, b, scale)
			}
		}
	}
}

// R1: scales that nobody has room for end too.
func TestGreatScalesEnd(t *testing.T) {
	l := []api.Dec{{Scale: math.MaxInt}, {Coef: api.Nat{7}, Scale: math.MaxInt}, {Neg: true, Coef: api.Nat{0, 3}, Scale: math.MinInt}, number("-2.50"), number("3")}
	for _, a := range l {
		for _, b := range l {
			callAll(a, b, math.MaxInt)
		}
	}
	if unit, half := round.Unit(math.MaxInt), round.Half(math.MaxInt); unit.Scale != math.MaxInt || half.Scale != math.MaxInt {
		t.Errorf("the scales %d and %d", unit.Scale, half.Scale)
	}
}

// roomy answers d with room behind the end of its digits, and all of that room.
func roomy(d api.Dec) (api.Dec, api.Nat) {
	room := slices.Concat(d.Coef, api.Nat{77, 77, 77, 77})
	d.Coef = room[:len(d.Coef)]
	return d, room
}

// R3, R4: answers are new, and what is done to one changes neither what was handed in nor another answer.
func TestMemoryIsNew(t *testing.T) {
	l := append(few(), api.Dec{Coef: slices.Repeat(api.Nat{top}, 60), Scale: 3}, api.Dec{Neg: true, Coef: api.Nat{5, 0}, Scale: -1})
	for _, a := range l {
		for _, b := range l {
			for _, scale := range []int{0, 1, 2, 40} {
				first, firstRoom := roomy(a)
				second, secondRoom := roomy(b)
				areApart(t, callAll(first, second, scale), callAll(first, second, scale))
				if !slices.Equal(firstRoom, slices.Concat(a.Coef, api.Nat{77, 77, 77, 77})) || !slices.Equal(secondRoom, slices.Concat(b.Coef, api.Nat{77, 77, 77, 77})) {
					t.Fatalf("%v or %v was changed, or is shared", a, b)
				}
			}
		}
	}
}

// areApart checks that both lists of answers are alike, and that each answer stays as it is when the room of all others is written to.
func areApart(t *testing.T, first, second []api.Dec) {
	t.Helper()
	for i, d := range first {
		if !dec.Alike(d, second[i]) {
			t.Errorf("%v, and %v: at another time, or where others were written to", d, second[i])
		}
		room := d.Coef[:cap(d.Coef)]
		for j := range room {
			room[j] = 55
		}
	}
}

// R3
func TestPartsStay(t *testing.T) {
	parts := numbers("1.50", "2", "123456789012.500", "88")
	got, err := round.Allocate(number("10.01"), parts[:3], 2)
	if err != api.OK || texts(parts) != "1.50 2 123456789012.500 88" {
		t.Errorf("the parts became %s, %d", texts(parts), err)
	}
	for i := range got {
		got[i] = api.Dec{}
	}
	_ = append(got, number("5"))
	if texts(parts) != "1.50 2 123456789012.500 88" {
		t.Errorf("the parts became %s", texts(parts))
	}
}
