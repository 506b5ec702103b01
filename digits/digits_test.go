package digits_test

import (
	"math"
	"math/big"
	"slices"
	"strings"
	"testing"
	"unicode/utf8"

	"quittance/api"
	"quittance/digits"
	"quittance/nat"
)

const top = 999_999_999

// whole answers what a is worth, told by the library's own numbers.
func whole(a api.Nat) *big.Int {
	n := new(big.Int)
	for i := len(a) - 1; i >= 0; i-- {
		n.Mul(n, big.NewInt(top+1))
		n.Add(n, big.NewInt(int64(a[i])))
	}
	return n
}

// limbs answers n as a natural number.
func limbs(n *big.Int) api.Nat {
	var a api.Nat
	rest, limb := new(big.Int).Set(n), new(big.Int)
	for rest.Sign() > 0 {
		rest.DivMod(rest, big.NewInt(top+1), limb)
		a = append(a, uint32(limb.Int64()))
	}
	return a
}

// number answers the natural number that the library's own numbers read from s.
func number(t *testing.T, s string) api.Nat {
	t.Helper()
	n, ok := new(big.Int).SetString(s, 10)
	if !ok {
		t.Fatalf("%q is no number", s)
	}
	return limbs(n)
}

// tens answers texts of numbers about the powers of ten, where digits become more, and about multiples of them.
func tens() []string {
	l := []string{"0"}
	for n := range 60 {
		noughts := strings.Repeat("0", n)
		l = append(l, "1"+noughts, "7"+noughts, "9"+noughts, "12345678987654321"+noughts, strings.Repeat("9", n+1))
		if n > 0 {
			l = append(l, "1"+noughts[1:]+"1", "5"+noughts[1:]+"9", "1"+noughts+"1"+noughts, "1"+strings.Repeat("0", 29)+"3"+noughts)
		}
	}
	return l
}

// samples answers right numbers: nought, short ones, about powers of ten, with noughts in all places of limbs, and of no pattern.
func samples(t *testing.T) []api.Nat {
	t.Helper()
	l := []api.Nat{
		nil, {}, {1}, {9}, {10}, {top - 1}, {top}, {0, 1}, {5, 1}, {top, 1}, {0, top}, {top, top}, {100, 0, 1}, {0, 10, 1}, {0, 0, 120}, {1, 0, 0, 1},
		{709551615, 446744073, 18}, {709551616, 446744073, 18}, {12345, 678, 9}, {100_000_000, 10_000_000, 1_000_000},
	}
	for _, s := range tens() {
		l = append(l, number(t, s))
	}
	seed := uint64(4)
	for n := range 30 {
		var a api.Nat
		for range n + 1 {
			seed = seed*6364136223846793005 + 1442695040888963407
			a = append(a, uint32(seed>>33)%top+1)
		}
		l = append(l, a)
	}
	return l
}

// twisted answers lists that are no right numbers.
func twisted() []api.Nat {
	return []api.Nat{
		{0}, {0, 0}, {5, 0}, {0, 5, 0, 0}, {top + 1}, {math.MaxUint32}, {4_000_000_000, 1}, {0, math.MaxUint32}, {math.MaxUint32, math.MaxUint32, math.MaxUint32},
		{math.MaxUint32, 0, 0, 0}, slices.Repeat(api.Nat{0}, 20), slices.Repeat(api.Nat{math.MaxUint32}, 20),
	}
}

// P4.1
func TestText(t *testing.T) {
	tests := []struct {
		a    api.Nat
		want string
	}{
		{nil, "0"}, {api.Nat{}, "0"}, {api.Nat{1}, "1"}, {api.Nat{10}, "10"}, {api.Nat{top}, "999999999"},
		{api.Nat{0, 1}, "1000000000"}, {api.Nat{5, 1}, "1000000005"}, {api.Nat{50, 0, 20}, "20000000000000000050"},
		{api.Nat{123456789, 12}, "12123456789"}, {api.Nat{100_000_000, 100_000_000}, "100000000100000000"}, {api.Nat{7, 70, 700}, "700000000070000000007"},
	}
	for _, c := range tests {
		if got := digits.Text(c.a); got != c.want {
			t.Errorf("Text(%v): %q, want %q", c.a, got, c.want)
		}
	}
	for _, a := range samples(t) {
		if got, want := digits.Text(a), whole(a).String(); got != want {
			t.Errorf("Text(%v): %q, want %q", a, got, want)
		}
	}
}

// isRead checks that s is read as the number want, which is right.
func isRead(t *testing.T, s string, want api.Nat) {
	t.Helper()
	if got, err := digits.Parse(s); err != api.OK || !slices.Equal(got, want) {
		t.Errorf("Parse(%q): %v, %d, want %v", s, got, err, want)
	}
}

// P4.2
func TestParse(t *testing.T) {
	tests := []struct {
		s    string
		want api.Nat
	}{
		{"0", nil}, {"00", nil}, {"1", api.Nat{1}}, {"01", api.Nat{1}}, {"007", api.Nat{7}}, {"10", api.Nat{10}}, {"0123456789", api.Nat{123456789}},
		{"9876543210", api.Nat{876543210, 9}}, {"999999999", api.Nat{top}}, {"1000000000", api.Nat{0, 1}}, {"1000000005", api.Nat{5, 1}},
		{"0000000001", api.Nat{1}}, {"18446744073709551615", api.Nat{709551615, 446744073, 18}}, {"18446744073709551616", api.Nat{709551616, 446744073, 18}},
	}
	for _, c := range tests {
		isRead(t, c.s, c.want)
	}
	for _, s := range tens() {
		want := number(t, s)
		for n := range 20 {
			isRead(t, strings.Repeat("0", n)+s, want)
		}
		isRead(t, strings.Repeat("0", 100)+s, want)
	}
	for n := range 100 {
		isRead(t, strings.Repeat("0", n+1), nil)
		isRead(t, strings.Repeat("3", n+1), number(t, strings.Repeat("3", n+1)))
	}
}

// isRefused checks that s is not read, for that error.
func isRefused(t *testing.T, s string, want api.Errno) {
	t.Helper()
	if got, err := digits.Parse(s); len(got) != 0 || err != want {
		t.Errorf("Parse(%q): %v, %d, want nothing and %d", s, got, err, want)
	}
}

// P4.2
func TestParseOfNothing(t *testing.T) {
	isRefused(t, "", api.ErrShort)
}

// P4.2
func TestParseOfOtherThings(t *testing.T) {
	for _, s := range []string{
		" ", "-", "+", "x", ".", "-1", "+1", "--1", " 1", "1 ", "1 2", "\t1", "1\n", "1\r\n", "1.", "1.0", ".5", "1,000", "1_000", "1'000", "1e3", "0x1f", "0b1", "0o7", "1f", "a1",
		"0-", "1:", "/1", "12345678a", "a12345678", "123456789a", "a123456789", "1234567890123456789x", "x1234567890123456789", "123456789x123456789", "000000000x", "x000000000",
		"\x00", "1\x00", "\x001", "\xff", "1\xff", "\xff1", "1\xc3", "\xb11", "1\x80\x80\x80\x80\x80\x80\x80\x80\x80\x80", "\ufffd", "1\ufffd", "\ufeff1", "1\u0131", "\u01301",
		"\u00e9", "1\u00e9", "\u00bd", "1\u00b2", "\u0661\u0662\u0663", "\u0967\u0968\u0969", "\uff11\uff12\uff13", "1\uff12", "\U0001d7cf", "1\U0001d7cf",
	} {
		isRefused(t, s, api.ErrForm)
	}
}

// P4.2: each byte that is no digit is refused, wherever it stands.
func TestParseOfEachByte(t *testing.T) {
	digit := "12345678901234567890"
	for n := range 256 {
		if n >= '0' && n <= '9' {
			isRead(t, string([]byte{byte(n)}), nat.Make(uint64(n-'0')))
			continue
		}
		other := string([]byte{byte(n)})
		isRefused(t, other, api.ErrForm)
		for at := range len(digit) + 1 {
			isRefused(t, digit[:at]+other+digit[at:], api.ErrForm)
		}
	}
}

// P4.2: no sign is a digit but 0 to 9, whatever its number ends with.
func TestParseOfEachSign(t *testing.T) {
	for sign := rune(0); sign <= utf8.MaxRune; sign++ {
		if !utf8.ValidRune(sign) || sign >= '0' && sign <= '9' {
			continue
		}
		isRefused(t, string(sign), api.ErrForm)
		isRefused(t, "4"+string(sign), api.ErrForm)
	}
}

// P4.3
func TestCount(t *testing.T) {
	for n := range 200 {
		nines, more := strings.Repeat("9", n), "1"+strings.Repeat("0", n)
		if n > 0 {
			if got := digits.Count(number(t, nines)); got != n {
				t.Errorf("Count(%s): %d, want %d", nines, got, n)
			}
		}
		if got := digits.Count(number(t, more)); got != n+1 {
			t.Errorf("Count(%s): %d, want %d", more, got, n+1)
		}
	}
	for _, a := range samples(t) {
		if got, want := digits.Count(a), len(whole(a).String()); got != want || got != len(digits.Text(a)) {
			t.Errorf("Count(%v): %d, want %d", a, got, want)
		}
	}
}

// P4.4
func TestNoughts(t *testing.T) {
	tests := []struct {
		a    api.Nat
		want int
	}{
		{nil, 0}, {api.Nat{}, 0}, {api.Nat{1}, 0}, {api.Nat{10}, 1}, {api.Nat{101}, 0}, {api.Nat{500}, 2}, {api.Nat{100_000_000}, 8}, {api.Nat{0, 1}, 9}, {api.Nat{0, 10}, 10},
		{api.Nat{1, 10}, 0}, {api.Nat{100, 0, 1}, 2}, {api.Nat{100, 100}, 2}, {api.Nat{0, 100_000_000}, 17}, {api.Nat{0, 0, 1}, 18}, {api.Nat{0, 20, 1}, 10}, {api.Nat{0, 0, 30, 0, 1}, 19},
	}
	for _, c := range tests {
		if got := digits.Noughts(c.a); got != c.want {
			t.Errorf("Noughts(%v): %d, want %d", c.a, got, c.want)
		}
	}
	for _, a := range samples(t) {
		if len(a) == 0 {
			continue
		}
		s := whole(a).String()
		if got, want := digits.Noughts(a), len(s)-len(strings.TrimRight(s, "0")); got != want {
			t.Errorf("Noughts(%v): %d, want %d", a, got, want)
		}
	}
}

// P4.5
func TestDrop(t *testing.T) {
	for _, a := range samples(t) {
		s := whole(a).String()
		for n := range len(s) + 25 {
			want := api.Nat(nil)
			if n < len(s) {
				want = number(t, s[:len(s)-n])
			}
			if got, err := digits.Drop(a, n); err != api.OK || !slices.Equal(got, want) {
				t.Errorf("Drop(%v, %d): %v, %d, want %v", a, n, got, err, want)
			}
		}
	}
}

// P4.5
func TestDropOfAllAndMore(t *testing.T) {
	for _, a := range samples(t) {
		for _, n := range []int{1000, 1 << 20, math.MaxInt32, math.MaxInt32 + 1, math.MaxInt - 8, math.MaxInt} {
			if got, err := digits.Drop(a, n); len(got) != 0 || err != api.OK {
				t.Errorf("Drop(%v, %d): %v, %d, want nought", a, n, got, err)
			}
		}
	}
}

// P4.5
func TestDropOfFewerThanNone(t *testing.T) {
	for _, a := range samples(t) {
		for _, n := range []int{-1, -2, -8, -9, -10, -18, math.MinInt32, math.MinInt + 1, math.MinInt} {
			if got, err := digits.Drop(a, n); len(got) != 0 || err != api.ErrArg {
				t.Errorf("Drop(%v, %d): %v, %d, want nothing and ErrArg", a, n, got, err)
			}
		}
	}
}

// P4.6
func TestWhatIsToldIsRead(t *testing.T) {
	for _, a := range samples(t) {
		isRead(t, digits.Text(a), a)
	}
	for _, s := range tens() {
		got, _ := digits.Parse(s)
		if text := digits.Text(got); text != s {
			t.Errorf("Text of %q as it was read: %q", s, text)
		}
	}
}

// P4.1, P4.2, P4.3, P4.4, P4.5: of a number of some 90,000 digits.
func TestLongNumbers(t *testing.T) {
	s := strings.Repeat("1234567890", 9000) + strings.Repeat("0", 1234)
	a, err := digits.Parse(s)
	if err != api.OK || !nat.Right(a) || digits.Text(a) != s {
		t.Errorf("not told as it was read: %d", err)
	}
	if got := digits.Count(a); got != 91_234 {
		t.Errorf("Count: %d", got)
	}
	if got := digits.Noughts(a); got != 1235 {
		t.Errorf("Noughts: %d", got)
	}
	left, err := digits.Drop(a, 90_000)
	if got := digits.Text(left); err != api.OK || got != s[:1234] {
		t.Errorf("Drop: %s, %d", got, err)
	}
}

// counts answers numbers of digits to drop.
func counts() []int {
	return []int{math.MinInt, -1, 0, 1, 5, 8, 9, 10, 18, 27, 180, math.MaxInt}
}

// R1
func TestNothingPanics(t *testing.T) {
	for _, a := range append(samples(t), twisted()...) {
		digits.Text(a)
		digits.Count(a)
		digits.Noughts(a)
		for _, n := range counts() {
			digits.Drop(a, n)
		}
	}
}

// R3, R4: answers are new, and what is done to one changes neither what was handed in nor another answer.
func TestMemoryIsNew(t *testing.T) {
	for _, a := range append(samples(t), twisted()...) {
		room := slices.Concat(a, api.Nat{77, 77, 77, 77})
		want := slices.Clone(room)
		roomy := room[:len(a)]
		text := digits.Text(roomy)
		digits.Count(roomy)
		digits.Noughts(roomy)
		for _, n := range counts() {
			first, _ := digits.Drop(roomy, n)
			second, _ := digits.Drop(roomy, n)
			isApart(t, first, second)
		}
		first, _ := digits.Parse(text)
		second, _ := digits.Parse(text)
		isApart(t, first, second)
		if !slices.Equal(room, want) {
			t.Fatalf("%v was changed, or is shared", a)
		}
	}
}

// isApart checks that both are the same, and stay as they are when the room of the other one is written to.
func isApart(t *testing.T, first, second api.Nat) {
	t.Helper()
	want := slices.Clone(first)
	if !slices.Equal(second, want) {
		t.Errorf("%v at first, and %v then", first, second)
	}
	first = first[:cap(first)]
	for i := range first {
		first[i] = 55
	}
	if !slices.Equal(second, want) {
		t.Errorf("two answers share the room of %v", want)
	}
}
