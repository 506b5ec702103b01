package dectext_test

import (
	"math"
	"math/big"
	"regexp"
	"slices"
	"strings"
	"testing"
	"unicode/utf8"

	"quittance/api"
	"quittance/dec"
	"quittance/dectext"
)

const top = 999_999_999

// whole answers what a is worth, told by the library's own numbers.
func whole(a api.Nat) *big.Int {
	n := new(big.Int)
	for i := len(a) - 1; i >= 0; i-- {
		n.Mul(n, big.NewInt(top+1))
		n.Add(n, big.NewInt(int64(a[i])))
	}
	return n
}

// limbs answers n as a natural number.
func limbs(n *big.Int) api.Nat {
	var a api.Nat
	rest, limb := new(big.Int).Set(n), new(big.Int)
	for rest.Sign() > 0 {
		rest.DivMod(rest, big.NewInt(top+1), limb)
		a = append(a, uint32(limb.Int64()))
	}
	return a
}

// text answers d's text, made of the digits that the library's own numbers tell.
func text(d api.Dec) string {
	s := whole(d.Coef).String()
	for len(s) <= d.Scale {
		s = "0" + s
	}
	if d.Scale > 0 {
		s = s[:len(s)-d.Scale] + "." + s[len(s)-d.Scale:]
	}
	if d.Neg {
		return "-" + s
	}
	return s
}

// samples answers right decimals: of all lengths up to 40 digits, with points in all places, noughts at the end, and of both signs.
func samples(t *testing.T) []api.Dec {
	t.Helper()
	var l []api.Dec
	for _, s := range []string{"0", "1", "10", "100000000000", "999999999", "1000000000", "1234567890123456789012345678901234567890", "5000000005", "120300400005000006000000"} {
		for n := 1; n <= len(s); n++ {
			size, ok := new(big.Int).SetString(s[:n], 10)
			if !ok {
				t.Fatalf("%q is no number", s[:n])
			}
			for _, scale := range []int{0, 1, 2, 3, 5, 8, 9, 10, 18, 27, 39, 40, 41} {
				l = append(l, api.Dec{Coef: limbs(size), Scale: scale}, api.Dec{Neg: size.Sign() > 0, Coef: limbs(size), Scale: scale})
			}
		}
	}
	for _, d := range l {
		if !dec.Right(d) {
			t.Fatalf("%v is not right", d)
		}
	}
	return l
}

// twisted answers decimals that are not right, or that no text has room for.
func twisted() []api.Dec {
	var l []api.Dec
	for _, coef := range []api.Nat{nil, {0}, {0, 0}, {7}, {5, 0}, {0, 5, 0, 0}, {top + 1}, {math.MaxUint32}, {0, math.MaxUint32}, {math.MaxUint32, math.MaxUint32, math.MaxUint32}, slices.Repeat(api.Nat{math.MaxUint32}, 20)} {
		for _, scale := range []int{math.MinInt, math.MinInt + 1, math.MinInt32, -9, -1, 0, 2, 9, 30, math.MaxUint32, math.MaxInt - 1, math.MaxInt} {
			l = append(l, api.Dec{Coef: coef, Scale: scale}, api.Dec{Neg: true, Coef: coef, Scale: scale})
		}
	}
	return l
}

// P7.1
func TestText(t *testing.T) {
	tests := []struct {
		d    api.Dec
		want string
	}{
		{api.Dec{}, "0"}, {api.Dec{Coef: api.Nat{}}, "0"}, {dec.Make(0, 1), "0.0"}, {dec.Make(0, 2), "0.00"}, {dec.Make(0, 12), "0.000000000000"},
		{dec.Make(1, 0), "1"}, {dec.Make(-1, 0), "-1"}, {dec.Make(1, 1), "0.1"}, {dec.Make(-1, 1), "-0.1"}, {dec.Make(5, 3), "0.005"}, {dec.Make(-5, 3), "-0.005"},
		{dec.Make(10, 1), "1.0"}, {dec.Make(100, 2), "1.00"}, {dec.Make(100, 3), "0.100"}, {dec.Make(12, 2), "0.12"}, {dec.Make(123, 2), "1.23"}, {dec.Make(-123, 2), "-1.23"},
		{dec.Make(123450, 2), "1234.50"}, {dec.Make(-123450, 2), "-1234.50"}, {dec.Make(1000000, 0), "1000000"}, {dec.Make(-100, 0), "-100"},
		{dec.Make(1234567890, 9), "1.234567890"}, {dec.Make(1234567890, 10), "0.1234567890"}, {dec.Make(1234567890, 11), "0.01234567890"},
		{api.Dec{Coef: api.Nat{0, 0, 1}, Scale: 18}, "1.000000000000000000"}, {api.Dec{Neg: true, Coef: api.Nat{5, 0, 1}, Scale: 9}, "-1000000000.000000005"},
	}
	for _, c := range tests {
		if got := dectext.Text(c.d); got != c.want {
			t.Errorf("Text(%v): %q, want %q", c.d, got, c.want)
		}
	}
	for _, d := range samples(t) {
		if got, want := dectext.Text(d), text(d); got != want {
			t.Errorf("Text(%v): %q, want %q", d, got, want)
		}
	}
}

// P7.2
func TestPlain(t *testing.T) {
	tests := []struct {
		d    api.Dec
		want string
	}{
		{api.Dec{}, "0"}, {dec.Make(0, 7), "0"}, {dec.Make(1, 0), "1"}, {dec.Make(100, 0), "100"}, {dec.Make(-100, 0), "-100"}, {dec.Make(100, 1), "10"}, {dec.Make(100, 2), "1"},
		{dec.Make(-100, 2), "-1"}, {dec.Make(100, 3), "0.1"}, {dec.Make(-100, 4), "-0.01"}, {dec.Make(123450, 2), "1234.5"}, {dec.Make(123450, 0), "123450"}, {dec.Make(105, 2), "1.05"}, {dec.Make(1000000000, 12), "0.001"},
	}
	for _, c := range tests {
		if got := dectext.Plain(c.d); got != c.want {
			t.Errorf("Plain(%v): %q, want %q", c.d, got, c.want)
		}
	}
	for _, d := range samples(t) {
		want := text(d)
		if d.Scale > 0 {
			want = strings.TrimSuffix(strings.TrimRight(want, "0"), ".")
		}
		if got := dectext.Plain(d); got != want || got != dectext.Text(dec.Strip(d, 0)) {
			t.Errorf("Plain(%v): %q, want %q", d, got, want)
		}
	}
}

// commas answers s, a text as Text tells it, with commas.
func commas(s string) string {
	s, neg := strings.CutPrefix(s, "-")
	ahead, behind, stop := strings.Cut(s, ".")
	var groups []string
	for ; len(ahead) > 3; ahead = ahead[:len(ahead)-3] {
		groups = slices.Insert(groups, 0, ahead[len(ahead)-3:])
	}
	s = strings.Join(slices.Insert(groups, 0, ahead), ",")
	if stop {
		s += "." + behind
	}
	if neg {
		return "-" + s
	}
	return s
}

// P7.3
func TestCommas(t *testing.T) {
	tests := []struct {
		d    api.Dec
		want string
	}{
		{api.Dec{}, "0"}, {dec.Make(0, 4), "0.0000"}, {dec.Make(1, 0), "1"}, {dec.Make(12, 0), "12"}, {dec.Make(123, 0), "123"}, {dec.Make(-123, 0), "-123"}, {dec.Make(1234, 0), "1,234"}, {dec.Make(-1234, 0), "-1,234"},
		{dec.Make(12345, 0), "12,345"}, {dec.Make(123456, 0), "123,456"}, {dec.Make(-123456, 0), "-123,456"}, {dec.Make(1234567, 0), "1,234,567"}, {dec.Make(1000000000, 0), "1,000,000,000"},
		{dec.Make(123450, 2), "1,234.50"}, {dec.Make(-99999, 2), "-999.99"}, {dec.Make(1234567, 6), "1.234567"}, {dec.Make(1234567, 9), "0.001234567"}, {dec.Make(12345678901, 4), "1,234,567.8901"},
	}
	for _, c := range tests {
		if got := dectext.Commas(c.d); got != c.want {
			t.Errorf("Commas(%v): %q, want %q", c.d, got, c.want)
		}
	}
	for _, d := range samples(t) {
		if got, want := dectext.Commas(d), commas(text(d)); got != want {
			t.Errorf("Commas(%v): %q, want %q", d, got, want)
		}
	}
}

// isRead checks that s is read as the decimal want, which is right.
func isRead(t *testing.T, s string, want api.Dec) {
	t.Helper()
	if got, err := dectext.Parse(s); err != api.OK || !dec.Right(got) || !dec.Alike(got, want) {
		t.Errorf("Parse(%q): %v, %d, want %v", s, got, err, want)
	}
}

// P7.4
func TestParse(t *testing.T) {
	tests := []struct {
		s    string
		want api.Dec
	}{
		{"0", api.Dec{}}, {"00", api.Dec{}}, {"+0", api.Dec{}}, {"-0", api.Dec{}}, {"0.0", dec.Make(0, 1)}, {"-0.00", dec.Make(0, 2)}, {"+0.000", dec.Make(0, 3)}, {"-000,000.0", dec.Make(0, 1)},
		{"1", dec.Make(1, 0)}, {"+1", dec.Make(1, 0)}, {"-1", dec.Make(-1, 0)}, {"007", dec.Make(7, 0)}, {"-007.70", dec.Make(-770, 2)}, {"0.5", dec.Make(5, 1)}, {"-0.005", dec.Make(-5, 3)}, {"1.50", dec.Make(150, 2)},
		{"12", dec.Make(12, 0)}, {"123", dec.Make(123, 0)}, {"1234", dec.Make(1234, 0)}, {"1234567", dec.Make(1234567, 0)}, {"1234.5678", dec.Make(12345678, 4)}, {"1234.50", dec.Make(123450, 2)},
		{"1,234", dec.Make(1234, 0)}, {"12,345", dec.Make(12345, 0)}, {"123,456", dec.Make(123456, 0)}, {"1,234,567", dec.Make(1234567, 0)}, {"-1,234.50", dec.Make(-123450, 2)}, {"+12,345,678.9", dec.Make(123456789, 1)},
		{"0,001", dec.Make(1, 0)}, {"00,012", dec.Make(12, 0)}, {"000,123", dec.Make(123, 0)}, {"1,000,000,000.000000001", api.Dec{Coef: api.Nat{1, 0, 1}, Scale: 9}},
		{"100000000000000000000", api.Dec{Coef: api.Nat{0, 0, 100}}}, {"0.000000000000000000001", dec.Make(1, 21)},
	}
	for _, c := range tests {
		isRead(t, c.s, c.want)
	}
}

// isRefused checks that s is not read, for that error.
func isRefused(t *testing.T, s string, want api.Errno) {
	t.Helper()
	if got, err := dectext.Parse(s); err != want || got.Neg || len(got.Coef) != 0 || got.Scale != 0 {
		t.Errorf("Parse(%q): %v, %d, want nothing and %d", s, got, err, want)
	}
}

// P7.4
func TestParseOfNothing(t *testing.T) {
	for _, s := range []string{"", "+", "-"} {
		isRefused(t, s, api.ErrShort)
	}
}

// P7.4
func TestParseOfOtherThings(t *testing.T) {
	for _, s := range []string{
		"++", "--", "+-", "-+", "--1", "+-1", "-+1", "- 1", "1-", "1+", "1-1", " ", " 1", "1 ", "1 000", "\t1", "1\n",
		".", "-.", "1.", "-1.", ".5", "-.5", "+.5", "..", "1..", "1..5", "1.5.", "1.5.5", ".1.", "1.-5", "1.+5", "1. 5", "0.5 ",
		",", "-,", ",,", "1,", ",1", "-,1", "1,2", "1,23", "1,2345", "1234,567", "0123,456", ",123", "-,123", ",123,456", "123,", "123,,456", "1,,234", "1,234,", "1,234,5", "1,234,56", "1,234,5678", "12,34", "12,34,567", "123,4567",
		"1234,567,890", "1,2345,678", "1234,", "1,23,456", "123,45,678", "1,234567", "1234567,890",
		",.5", "1,.5", "1,23.5", "1.5,5", "1.234,567", "1,234.567,890", "1.,", "1,234.", "1,234.5.6", "123,.456", "123,456,.7", ".123,456",
		"a", "1a", "a1", "1.a", "1.5a", "1,a23", "a,123", "1,23a", "1e5", "1.5e3", "0x10", "Inf", "NaN", "1_000", "1'000", "$1", "1%", "\u22121", "1\u202f000", "1\u00b75",
		"\u0661", "\uff11", "1.\u0662", "1,\u0661\u0662\u0663", "\xff", "1\xff", "-\xff", "1.\xff", "1\xc3.\xa9", "\x00", "1\x00", "1,\xff\xff\xff", "\u00e9,123", "1,2\u00e9",
	} {
		isRefused(t, s, api.ErrForm)
	}
}

// each calls f with s, and with s and all texts of up to n of those signs behind it.
func each(s, signs string, n int, f func(string)) {
	f(s)
	if n == 0 {
		return
	}
	for i := range len(signs) {
		each(s+signs[i:i+1], signs, n-1, f)
	}
}

// P7.4: all short texts of some signs, and longer ones of digits, commas and stops, held against the form as an expression says it.
func TestParseOfAllShortTexts(t *testing.T) {
	form := regexp.MustCompile(`^[+-]?([0-9]+|[0-9]{1,3}(,[0-9]{3})+)(\.[0-9]+)?$`)
	check := func(s string) {
		size := strings.TrimLeft(s[:min(len(s), 1)], "+-") + s[min(len(s), 1):]
		switch {
		case size == "":
			isRefused(t, s, api.ErrShort)
		case !form.MatchString(s):
			isRefused(t, s, api.ErrForm)
		default:
			ahead, behind, _ := strings.Cut(strings.ReplaceAll(size, ",", ""), ".")
			n, _ := new(big.Int).SetString(ahead+behind, 10)
			isRead(t, s, api.Dec{Neg: s[0] == '-' && n.Sign() > 0, Coef: limbs(n), Scale: len(behind)})
		}
	}
	each("", "07,.-+x", 6, check)
	each("", "3,.", 10, check)
	each("", "3,", 14, check)
}

// P7.4: a sign other than these makes a number none, wherever it stands.
func TestParseOfEachByte(t *testing.T) {
	for n := range 256 {
		if strings.IndexByte("0123456789+-.,", byte(n)) >= 0 {
			continue
		}
		other := string([]byte{byte(n)})
		for _, s := range []string{"", "7", "-12.50", "1,234,567.890"} {
			for at := range len(s) + 1 {
				isRefused(t, s[:at]+other+s[at:], api.ErrForm)
			}
		}
	}
}

// P7.4: nothing counts as a digit but 0 to 9.
func TestParseOfEachSign(t *testing.T) {
	for sign := rune(utf8.RuneSelf); sign <= utf8.MaxRune; sign++ {
		if !utf8.ValidRune(sign) {
			continue
		}
		isRefused(t, string(sign), api.ErrForm)
		isRefused(t, "-4."+string(sign), api.ErrForm)
	}
}

// P7.5
func TestScale(t *testing.T) {
	tests := []struct {
		s    string
		want int
	}{
		{"", 0}, {"1", 0}, {"1234", 0}, {"-1,234", 0}, {"1.", 0}, {".", 0}, {"1.5", 1}, {".5", 1}, {"-1,234.50", 2}, {"0.000", 3}, {"1.2.3", 3}, {"..", 1}, {"...", 2}, {"a.bc", 2}, {"1,5", 0}, {" . ", 1},
		{"1.\u00e9", 2}, {"\u00e9.", 0}, {"1.\xff\xfe", 2}, {"\xff", 0}, {"1\u30025", 0}, {"1.5 USD", 5}, {"1.\n", 1}, {"." + strings.Repeat("0", 1000), 1000},
	}
	for _, c := range tests {
		if got := dectext.Scale(c.s); got != c.want {
			t.Errorf("Scale(%q): %d, want %d", c.s, got, c.want)
		}
	}
	for _, d := range samples(t) {
		if got := dectext.Scale(text(d)); got != d.Scale {
			t.Errorf("Scale(%q): %d", text(d), got)
		}
	}
}

// P7.6
func TestWhatIsToldIsRead(t *testing.T) {
	for _, d := range samples(t) {
		isRead(t, dectext.Text(d), d)
		isRead(t, dectext.Commas(d), d)
		isRead(t, dectext.Plain(d), dec.Strip(d, 0))
		if !d.Neg {
			isRead(t, "+"+dectext.Text(d), d)
			isRead(t, "-"+dectext.Commas(d), dec.Neg(d))
		}
	}
}

// P7.1, P7.2, P7.3, P7.4, P7.5, P7.6: of some 90,000 digits on either side of the point, and of as many noughts.
func TestLongNumbers(t *testing.T) {
	digits := strings.Repeat("1234567890", 9000)
	s := "-" + digits + "." + digits
	d, err := dectext.Parse(s)
	if err != api.OK || d.Scale != len(digits) || dectext.Text(d) != s {
		t.Errorf("not told as it was read: %d", err)
	}
	if dectext.Plain(d) != s[:len(s)-1] || dectext.Commas(d) != commas(s) || dectext.Scale(s) != len(digits) {
		t.Errorf("Plain, Commas or Scale is wrong")
	}
	isRead(t, commas(s), d)
	isRead(t, "+"+strings.Repeat("000,", 30_000)+"001.50", dec.Make(150, 2))
	isRefused(t, "+"+strings.Repeat("000,", 30_000)+"01.50", api.ErrForm)
	isRefused(t, s+"-", api.ErrForm)
}

// P7.1, P7.2, P7.3, P7.6: a right decimal has no greatest scale.
func TestGreatScales(t *testing.T) {
	for _, scale := range []int{1_000_000, 1_000_001, 20_000_000} {
		d := dec.Make(-7, scale)
		want := "-0." + strings.Repeat("0", scale-1) + "7"
		if dectext.Text(d) != want || dectext.Plain(d) != want || dectext.Commas(d) != want {
			t.Errorf("the scale %d is not told", scale)
		}
		isRead(t, want, d)
		if got := dectext.Plain(dec.Make(0, scale)); got != "0" {
			t.Errorf("Plain of nought: %q", got[:min(len(got), 20)])
		}
	}
}

// callAll answers what is told of d.
func callAll(d api.Dec) [3]string {
	return [3]string{dectext.Text(d), dectext.Plain(d), dectext.Commas(d)}
}

// R1
func TestNothingPanics(t *testing.T) {
	for _, d := range append(samples(t), twisted()...) {
		for _, s := range callAll(d) {
			dectext.Parse(s)
			dectext.Scale(s)
		}
	}
}

// R3, R4: answers are new, and what is done to one changes neither what was handed in nor another answer.
func TestMemoryIsNew(t *testing.T) {
	for _, d := range append(samples(t), twisted()...) {
		room := slices.Concat(d.Coef, api.Nat{77, 77, 77, 77})
		want := slices.Clone(room)
		roomy := api.Dec{Neg: d.Neg, Coef: room[:len(d.Coef)], Scale: d.Scale}
		told := callAll(roomy)
		if again := callAll(roomy); again != told {
			t.Errorf("%q at first, and %q then", told, again)
		}
		if !slices.Equal(room, want) {
			t.Fatalf("%v was changed", d)
		}
		for i := range room {
			room[i] = 55
		}
		if told != callAll(d) {
			t.Errorf("%q is not what is told of %v", told, d)
		}
		first, _ := dectext.Parse(told[0])
		second, _ := dectext.Parse(told[0])
		isApart(t, first, second)
	}
}

// isApart checks that both are the same, and stay as they are when the room of the other one is written to.
func isApart(t *testing.T, first, second api.Dec) {
	t.Helper()
	if !dec.Alike(first, second) {
		t.Errorf("%v at first, and %v then", first, second)
	}
	want := slices.Clone(second.Coef)
	room := first.Coef[:cap(first.Coef)]
	for i := range room {
		room[i] = 55
	}
	if !slices.Equal(second.Coef, want) {
		t.Errorf("two answers share the room of %v", want)
	}
}
