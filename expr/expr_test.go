package expr_test

import (
	"math"
	"math/big"
	"math/rand"
	"slices"
	"strings"
	"testing"

	"quittance/api"
	"quittance/dec"
	"quittance/dectext"
	"quittance/expr"
	"quittance/lex"
)

// number answers the decimal that is written as s.
func number(s string) api.Dec {
	d, err := dectext.Parse(s)
	if err != api.OK {
		panic(s)
	}
	return d
}

// words answers the words of s.
func words(s string) []api.Token {
	l, fault := lex.Words(api.Line{No: 1, Text: s})
	if fault != (api.Fault{}) {
		panic(s)
	}
	return l
}

// sign makes the sign that is written as s.
func sign(s string) api.Token { return api.Token{Kind: api.TkSign, Text: s} }

// written answers words as they are written, with blanks between.
func written(l []api.Token) string {
	var all []string
	for _, w := range l {
		all = append(all, lex.Text(w))
	}
	return strings.Join(all, " ")
}

// figure is what arithmetic is worth, told by the library's own numbers, and how many digits it has behind the point.
type figure struct {
	value *big.Rat
	scale int
}

// ten answers 10 to the n.
func ten(n int) *big.Rat {
	return new(big.Rat).SetInt(new(big.Int).Exp(big.NewInt(10), big.NewInt(int64(n)), nil))
}

// figureOf answers the number that is written as s.
func figureOf(s string) figure {
	s = strings.ReplaceAll(s, ",", "")
	value, _ := new(big.Rat).SetString(s)
	_, behind, _ := strings.Cut(s, ".")
	return figure{value, len(behind)}
}

// text answers f as dectext.Text tells decimals.
func (f figure) text() string { return f.value.FloatString(f.scale) }

// by answers f by g, as Quo is to tell it; g is not 0.
func (f figure) by(g figure) figure {
	least := max(f.scale, g.scale)
	scale := least + 10
	v := new(big.Rat).Quo(f.value, g.value)
	v.Mul(v, ten(scale))
	n, rest := new(big.Int).QuoRem(new(big.Int).Abs(v.Num()), v.Denom(), new(big.Int))
	if order := rest.Lsh(rest, 1).Cmp(v.Denom()); order > 0 || order == 0 && n.Bit(0) == 1 {
		n.Add(n, big.NewInt(1))
	}
	if v.Sign() < 0 {
		n.Neg(n)
	}
	near := new(big.Rat).Quo(new(big.Rat).SetInt(n), ten(scale))
	for scale > least && new(big.Rat).Mul(near, ten(scale-1)).IsInt() {
		scale--
	}
	return figure{near, scale}
}

// with answers f and g with that sign between; of a / by 0 false.
func (f figure) with(sign string, g figure) (figure, bool) {
	switch sign {
	case "+":
		return figure{new(big.Rat).Add(f.value, g.value), max(f.scale, g.scale)}, true
	case "-":
		return figure{new(big.Rat).Sub(f.value, g.value), max(f.scale, g.scale)}, true
	case "*":
		return figure{new(big.Rat).Mul(f.value, g.value), f.scale + g.scale}, true
	}
	if g.value.Sign() == 0 {
		return figure{}, false
	}
	return f.by(g), true
}

// mark is a sign that waits for what stands behind it: its place, what it is, and whether it stands ahead of a factor.
type mark struct {
	place int
	sign  string
	ahead bool
}

// reckoner goes through words with stacks: of figures, and of marks that wait.
type reckoner struct {
	figures []figure
	marks   []mark
}

// deep answers how many signs ahead of factors, and (, wait.
func (r *reckoner) deep() int {
	n := 0
	for _, m := range r.marks {
		if m.ahead {
			n++
		}
	}
	return n
}

// waits tells whether the last mark that waits is one of these signs, ahead of a factor or between two.
func (r *reckoner) waits(signs string, ahead bool) bool {
	if len(r.marks) == 0 {
		return false
	}
	last := r.marks[len(r.marks)-1]
	return last.ahead == ahead && strings.Contains(signs, last.sign)
}

// join puts together the last two figures by the last mark, and answers its place; false of a / by 0.
func (r *reckoner) join() (int, bool) {
	last := r.marks[len(r.marks)-1]
	r.marks = r.marks[:len(r.marks)-1]
	n := len(r.figures)
	f, ok := r.figures[n-2].with(last.sign, r.figures[n-1])
	r.figures = append(r.figures[:n-2], f)
	return last.place, ok
}

// factorRead lets all marks go that wait for no more than a factor.
func (r *reckoner) factorRead() (int, bool) {
	for r.waits("+-", true) {
		if r.waits("-", true) {
			last := &r.figures[len(r.figures)-1]
			last.value = new(big.Rat).Neg(last.value)
		}
		r.marks = r.marks[:len(r.marks)-1]
	}
	if r.waits("*/", false) {
		return r.join()
	}
	return 0, true
}

// productRead lets the mark go that waits for a product.
func (r *reckoner) productRead() {
	if r.waits("+-", false) {
		r.join()
	}
}

// isSign tells whether w is one of these signs.
func isSign(w api.Token, signs string) bool {
	return w.Kind == api.TkSign && len(w.Text) == 1 && strings.Contains(signs, w.Text)
}

// reckon answers how what Eval is to tell is written, and the place and the error that it is to tell.
func reckon(l []api.Token, at int) (string, int, api.Errno) {
	var r reckoner
	factor := true
	for ; ; at++ {
		switch {
		case factor && at == len(l):
			return "", at, api.ErrShort
		case factor && isSign(l[at], "+-("):
			if r.deep() == 64 {
				return "", at, api.ErrDeep
			}
			r.marks = append(r.marks, mark{at, l[at].Text, true})
		case factor && l[at].Kind != api.TkNumber:
			return "", at, api.ErrForm
		case factor:
			r.figures = append(r.figures, figureOf(l[at].Text))
			factor = false
			if place, ok := r.factorRead(); !ok {
				return "", place, api.ErrZero
			}
		case at < len(l) && isSign(l[at], "*/"):
			r.marks = append(r.marks, mark{at, l[at].Text, false})
			factor = true
		case at < len(l) && isSign(l[at], "+-"):
			r.productRead()
			r.marks = append(r.marks, mark{at, l[at].Text, false})
			factor = true
		default:
			r.productRead()
			switch {
			case len(r.marks) == 0:
				return r.figures[0].text(), at, api.OK
			case at == len(l):
				return "", at, api.ErrShort
			case !isSign(l[at], ")"):
				return "", at, api.ErrForm
			}
			r.marks = r.marks[:len(r.marks)-1]
			if place, ok := r.factorRead(); !ok {
				return "", place, api.ErrZero
			}
		}
	}
}

// is checks that got is right, and is written as want, or is nothing beside an error; and the place and the error.
func is(t *testing.T, what string, got api.Dec, place int, err api.Errno, want string, wantPlace int, wantErr api.Errno) {
	t.Helper()
	s := dectext.Text(got)
	switch {
	case wantErr != api.OK:
		want, s = "", ""
		if got.Neg || len(got.Coef) != 0 || got.Scale != 0 {
			s = dectext.Text(got)
		}
	case !dec.Right(got):
		s = "what is not right"
	}
	if s != want || place != wantPlace || err != wantErr {
		t.Fatalf("%s: %q, %d, %d, want %q, %d, %d", what, s, place, err, want, wantPlace, wantErr)
	}
}

// isReckoned checks what Eval tells of the words from at on against what is to be told; it tells whether that is a value.
func isReckoned(t *testing.T, l []api.Token, at int) bool {
	t.Helper()
	want, wantPlace, wantErr := reckon(l, at)
	got, place, err := expr.Eval(l, at)
	is(t, "Eval of "+written(l), got, place, err, want, wantPlace, wantErr)
	return err == api.OK
}

// P13.1
func TestQuo(t *testing.T) {
	tests := []struct{ a, b, want string }{
		{"10", "4", "2.5"}, {"10", "5", "2"}, {"10.00", "4", "2.50"}, {"10", "4.000", "2.500"}, {"10.0", "5.00", "2.00"}, {"1", "0.25", "4.00"}, {"7", "1", "7"}, {"100", "0.10", "1000.00"}, {"1000", "10", "100"},
		{"1", "3", "0.3333333333"}, {"2", "3", "0.6666666667"}, {"-2", "3", "-0.6666666667"}, {"2", "-3", "-0.6666666667"}, {"-2", "-3", "0.6666666667"}, {"1.0", "3", "0.33333333333"}, {"1", "3.00", "0.333333333333"}, {"100.00", "7.1", "14.084507042254"}, {"1", "7", "0.1428571429"},
		{"1", "2048", "0.0004882812"}, {"3", "2048", "0.0014648438"}, {"-1", "2048", "-0.0004882812"}, {"-3", "2048", "-0.0014648438"}, {"1", "1024", "0.0009765625"}, {"1.0", "2048", "0.00048828125"}, {"1", "2000000000", "0.0000000005"},
		{"1", "10000000000", "0.0000000001"}, {"1", "20000000000", "0"}, {"3", "20000000000", "0.0000000002"}, {"-1", "20000000000", "0"}, {"1", "20000000001", "0"}, {"1", "19999999999", "0.0000000001"}, {"-1", "100000000000", "0"}, {"0.001", "100000000000000", "0.000"}, {"0.001", "10000000000", "0.0000000000001"},
		{"0", "7", "0"}, {"0.00", "7", "0.00"}, {"0", "-7.000", "0.000"}, {"0.0", "3", "0.0"}, {"99999999995", "10000000000", "9.9999999995"}, {"1", "0.000000000000000001", "1000000000000000000.000000000000000000"}, {"123456789012345678901234567890", "10", "12345678901234567890123456789"},
	}
	for _, c := range tests {
		got, err := expr.Quo(number(c.a), number(c.b))
		is(t, "Quo of "+c.a+" by "+c.b, got, 0, err, c.want, 0, api.OK)
	}
	for _, a := range samples() {
		for _, b := range samples() {
			got, err := expr.Quo(number(a), number(b))
			what := "Quo of " + a + " by " + b
			if dec.Sign(number(b)) == 0 {
				is(t, what, got, 0, err, "", 0, api.ErrZero)
				continue
			}
			is(t, what, got, 0, err, figureOf(a).by(figureOf(b)).text(), 0, api.OK)
		}
	}
}

// samples answers numbers: nought, small ones of both signs, with noughts at the end, and long ones, with points in all places.
func samples() []string {
	l := []string{"0", "0.000", "1", "-1", "1.00", "-0.5", "2", "3", "-7.0", "8", "16", "1000", "0.001", "-1024", "2048.0", "0.0000000001", "99999999999", "-0.33333333333333333333", "12345678901234567890.123456789"}
	random := rand.New(rand.NewSource(13))
	for n := range 24 {
		s := ""
		for range 1 + random.Intn(30) {
			s += string(rune('0' + random.Intn(10)))
		}
		at := random.Intn(len(s)) + 1
		if at < len(s) {
			s = s[:at] + "." + s[at:]
		}
		if n%3 == 0 && strings.Trim(s, "0.") != "" {
			s = "-" + s
		}
		l = append(l, s)
	}
	return l
}

// P13.1
func TestQuoByNought(t *testing.T) {
	for _, a := range []string{"0", "0.00", "1", "-1.5", "123456789012345678901234567890"} {
		for _, b := range []string{"0", "0.0", "0.000000000000"} {
			got, err := expr.Quo(number(a), number(b))
			is(t, "Quo of "+a+" by "+b, got, 0, err, "", 0, api.ErrZero)
		}
	}
}

// P13.1: scales are those of what is given, as far as chapters 5 and 6 go, and ten places more.
func TestQuoOfLongScales(t *testing.T) {
	for _, scale := range []int{100, 1000, 999_990, 1_000_000} {
		third, err := expr.Quo(api.Dec{Coef: api.Nat{1}, Scale: scale}, dec.Make(3, 0))
		is(t, "a third", third, 0, err, "0."+strings.Repeat("0", scale)+"3333333333", 0, api.OK)
		fifth, err := expr.Quo(dec.Make(1, 0), api.Dec{Coef: api.Nat{5}, Scale: scale})
		is(t, "by five", fifth, 0, err, "2"+strings.Repeat("0", scale-1)+"."+strings.Repeat("0", scale), 0, api.OK)
	}
}

// P13.2
func TestStarts(t *testing.T) {
	texts := []string{"", "1", "-", "+", "(", ")", "*", "/", ",", "--", "+-", "((", "-(", " -", "- ", "{", "{{", "@", "~", "!", "\u2212", "\uff0b", "a", "-1", "2024-01-31"}
	for kind := -1; kind < 13; kind++ {
		for _, s := range texts {
			want := kind == api.TkNumber || kind == api.TkSign && (s == "-" || s == "+" || s == "(")
			if got := expr.Starts(api.Token{Kind: kind, Text: s, Pos: api.Pos{Line: 3, Col: 4}}); got != want {
				t.Errorf("Starts of %d %q: %v", kind, s, got)
			}
		}
	}
	for _, c := range []struct {
		s    string
		want bool
	}{{"5 USD", true}, {"1,000.50", true}, {"-5", true}, {"+5", true}, {"(5)", true}, {")", false}, {"*", false}, {"/", false}, {"USD", false}, {"2024-01-31", false}, {"\"5\"", false}, {"{5", false}, {"@ 5", false}, {"~ 5", false}, {", 5", false}, {"Assets:5", false}, {"#5", false}, {"^5", false}, {"open", false}, {"key:", false}} {
		if got := expr.Starts(words(c.s)[0]); got != c.want {
			t.Errorf("Starts of %s: %v", c.s, got)
		}
	}
}

// P13.3: what is read to its end
func TestEval(t *testing.T) {
	tests := []struct{ s, want string }{
		{"5", "5"}, {"5.00", "5.00"}, {"0", "0"}, {"0.00", "0.00"}, {"007.10", "7.10"}, {"1,000.50", "1000.50"}, {"-5", "-5"}, {"+5", "5"}, {"-0", "0"}, {"-0.00", "0.00"}, {"--5", "5"}, {"-+-+5.0", "5.0"}, {"+-5", "-5"}, {"(5)", "5"}, {"((5))", "5"}, {"-(5)", "-5"}, {"(-5)", "-5"}, {"-(-(5))", "5"},
		{"1.5 + 2 * 3", "7.5"}, {"1 + 2", "3"}, {"1.50 + 2.5", "4.00"}, {"1 - 2", "-1"}, {"2.50 - 2.5", "0.00"}, {"1.50 * 2.5", "3.750"}, {"1.50 * 0", "0.00"}, {"10 / 4", "2.5"}, {"10.00 / 4", "2.50"}, {"1 / 3", "0.3333333333"}, {"0 / 3", "0"}, {"1+2", "3"}, {"1-2", "-1"},
		{"8 - 4 - 2", "2"}, {"8 - 4 + 2", "6"}, {"8 / 4 / 2", "1"}, {"8 / 4 * 2", "4"}, {"8 * 4 / 2", "16"}, {"8 - (4 - 2)", "6"}, {"8 / (4 / 2)", "4"}, {"1 / 3 * 3", "0.9999999999"}, {"1 * 3 / 3", "1"}, {"1 / 3 + 1 / 3", "0.6666666666"}, {"1 / 3 / 3", "0.1111111111"}, {"2 / 3 / 7", "0.09523809524285714286"},
		{"1 + 2 * 3", "7"}, {"2 * 3 + 1", "7"}, {"(1 + 2) * 3", "9"}, {"2 * (3 + 1)", "8"}, {"1 - 2 * 3", "-5"}, {"10 - 4 / 2", "8"}, {"(10 - 4) / 2", "3"}, {"2 * 3 - 4 * 5 + 6 / 4", "-12.5"}, {"((1 + 2) * (3 + 4)) / ((5 - 2))", "7"},
		{"2 - -3", "5"}, {"2 + -3", "-1"}, {"2 - +3", "-1"}, {"2 * -3", "-6"}, {"-2 * -3", "6"}, {"6 / -4", "-1.5"}, {"-2 * 3 + 1", "-5"}, {"-(2 + 3) * 4", "-20"}, {"- 2 - - - 3", "-5"}, {"2 * - (3 + 4)", "-14"}, {"-1 - 1", "-2"}, {"-1 / 2048", "-0.0004882812"}, {"-8 / 4 / -2", "1"},
		{"0 * 5 / 1", "0"}, {"5 / (1 - 0.5)", "10.0"}, {"999999999999999999 * 999999999999999999", "999999999999999998000000000000000001"}, {"0.1 + 0.2 - 0.3", "0.0"}, {"1,234,567 * 1,000.000", "1234567000.000"}, {"2024 - 01 - 311", "1712"},
	}
	for _, c := range tests {
		l := words(c.s)
		got, place, err := expr.Eval(l, 0)
		is(t, "Eval of "+c.s, got, place, err, c.want, len(l), api.OK)
		ahead := words("( * USD 1 / 0 -")
		got, place, err = expr.Eval(append(slices.Clone(ahead), l...), len(ahead))
		is(t, "Eval of "+c.s+" behind others", got, place, err, c.want, len(ahead)+len(l), api.OK)
	}
}

// P13.3: places
func TestEvalPlaces(t *testing.T) {
	tests := []struct {
		s       string
		at      int
		want    string
		behind  int
		wantErr api.Errno
	}{
		{"1 + 2 * 3", 0, "7", 5, api.OK}, {"1 + 2 * 3", 1, "6", 5, api.OK}, {"1 + 2 * 3", 2, "6", 5, api.OK}, {"1 + 2 * 3", 3, "", 3, api.ErrForm}, {"1 + 2 * 3", 4, "3", 5, api.OK}, {"1 + 2 * 3", 5, "", 5, api.ErrShort},
		{"1 - 2 USD", 1, "-2", 3, api.OK}, {"1 - 2 USD", 3, "", 3, api.ErrForm}, {"1 - 2 USD", 4, "", 4, api.ErrShort}, {"(1) (2)", 0, "1", 3, api.OK}, {"(1) (2)", 1, "1", 2, api.OK}, {"(1) (2)", 2, "", 2, api.ErrForm}, {"(1) (2)", 3, "2", 6, api.OK}, {"(1) (2)", 5, "", 5, api.ErrForm},
		{"1 2", 0, "1", 1, api.OK}, {"1 2", 1, "2", 2, api.OK}, {"1)", 0, "1", 1, api.OK}, {"1 / 0 2", 1, "", 1, api.ErrForm}, {"1 / 0 2", 2, "0", 3, api.OK},
	}
	for _, c := range tests {
		got, place, err := expr.Eval(words(c.s), c.at)
		is(t, "Eval of "+c.s, got, place, err, c.want, c.behind, c.wantErr)
	}
}

// P13.3: there is no such place.
func TestEvalOfNoPlace(t *testing.T) {
	for _, s := range []string{"", "1", "1 + 2", "USD", "1 / 0", "("} {
		l := words(s)
		for _, at := range []int{math.MinInt, -2, -1, len(l) + 1, len(l) + 2, math.MaxInt} {
			got, place, err := expr.Eval(l, at)
			is(t, "Eval of "+s, got, place, err, "", at, api.ErrArg)
		}
		got, place, err := expr.Eval(l, len(l))
		is(t, "Eval behind "+s, got, place, err, "", len(l), api.ErrShort)
	}
	// What lies in the room behind the list's end is not of it.
	l := words("1 + 2")
	for n, want := range []string{"", "1", "", "3"} {
		got, place, err := expr.Eval(l[:n], 0)
		wantErr := api.OK
		if want == "" {
			wantErr = api.ErrShort
		}
		is(t, "Eval of a part", got, place, err, want, n, wantErr)
	}
	got, place, err := expr.Eval(l[:1], 2)
	is(t, "Eval behind the end", got, place, err, "", 2, api.ErrArg)
}

// P13.3: the first fault, and its word's place
func TestEvalFaults(t *testing.T) {
	tests := []struct {
		s    string
		at   int
		want api.Errno
	}{
		{"", 0, api.ErrShort}, {"-", 1, api.ErrShort}, {"+", 1, api.ErrShort}, {"(", 1, api.ErrShort}, {"- (", 2, api.ErrShort}, {"1 +", 2, api.ErrShort}, {"1 -", 2, api.ErrShort}, {"1 *", 2, api.ErrShort}, {"1 /", 2, api.ErrShort}, {"0 /", 2, api.ErrShort}, {"1 + -", 3, api.ErrShort}, {"(1", 2, api.ErrShort}, {"(1 + 2", 4, api.ErrShort}, {"((1)", 4, api.ErrShort}, {"(1 *", 3, api.ErrShort}, {"1 + (2", 4, api.ErrShort}, {"2 * (3 - 1", 6, api.ErrShort},
		{")", 0, api.ErrForm}, {"*", 0, api.ErrForm}, {"/", 0, api.ErrForm}, {"* 2", 0, api.ErrForm}, {"USD", 0, api.ErrForm}, {"USD 5", 0, api.ErrForm}, {"()", 1, api.ErrForm}, {"- )", 1, api.ErrForm}, {"1 + )", 2, api.ErrForm}, {"1 + USD", 2, api.ErrForm}, {"1 * USD", 2, api.ErrForm}, {"1 - ~ 2", 2, api.ErrForm}, {"1 + * 2", 2, api.ErrForm}, {"1 * / 2", 2, api.ErrForm}, {"1 / / 2", 2, api.ErrForm}, {"- USD", 1, api.ErrForm}, {"(USD", 1, api.ErrForm}, {"(1 USD", 2, api.ErrForm}, {"(1 USD)", 2, api.ErrForm}, {"(1 2)", 2, api.ErrForm}, {"(1 (2))", 2, api.ErrForm}, {"(1, 2)", 2, api.ErrForm}, {"((1) 2)", 4, api.ErrForm}, {"(1 + )", 3, api.ErrForm}, {"2 * (3 }", 4, api.ErrForm}, {"(-)", 2, api.ErrForm},
		{"2024-01-31", 0, api.ErrForm}, {"1 + 2024/01/31", 2, api.ErrForm}, {"\"5\"", 0, api.ErrForm}, {"1 - \"5\"", 2, api.ErrForm}, {"#5", 0, api.ErrForm}, {"^5", 0, api.ErrForm}, {"Assets:5", 0, api.ErrForm}, {"1 + five", 2, api.ErrForm}, {"1 + five: 5", 2, api.ErrForm}, {"{5}", 0, api.ErrForm}, {"@ 5", 0, api.ErrForm}, {"- @@ 5", 1, api.ErrForm}, {"! 5", 0, api.ErrForm}, {", 5", 0, api.ErrForm},
		{"1 / 0", 1, api.ErrZero}, {"0 / 0", 1, api.ErrZero}, {"1 / 0.000", 1, api.ErrZero}, {"1 / -0", 1, api.ErrZero}, {"1 / - - 0.0", 1, api.ErrZero}, {"1 / (0)", 1, api.ErrZero}, {"1 / (2 - 2.0)", 1, api.ErrZero}, {"- 1 / 0", 2, api.ErrZero}, {"1 + 2 / 0", 3, api.ErrZero}, {"1 / 2 / 0", 3, api.ErrZero}, {"1 / 0 / 0", 1, api.ErrZero}, {"1 * 2 / 0 * 3", 3, api.ErrZero}, {"(1 / 0)", 2, api.ErrZero}, {"1 / (1 / 0)", 4, api.ErrZero}, {"1 / (0 * 5)", 1, api.ErrZero}, {"1 / (1 / 20,000,000,000)", 1, api.ErrZero},
		// A / by 0 is told once its factor is read: ahead of what is wrong behind it, behind what is wrong within.
		{"1 / 0 +", 1, api.ErrZero}, {"1 / 0 * USD", 1, api.ErrZero}, {"1 / 0 )", 1, api.ErrZero}, {"1 / 0 USD", 1, api.ErrZero}, {"(1 / 0", 2, api.ErrZero}, {"(1 / 0 USD", 2, api.ErrZero}, {"1 / 0 / USD", 1, api.ErrZero}, {"1 / (0", 4, api.ErrShort}, {"1 / (0 USD)", 4, api.ErrForm}, {"1 / (0 +", 5, api.ErrShort}, {"1 / (0) + USD", 1, api.ErrZero}, {"1 / - USD", 3, api.ErrForm}, {"1 / (0 * (1 / 0))", 7, api.ErrZero}, {"2 - 1 / 0 - (", 3, api.ErrZero}, {"1 + USD / 0", 2, api.ErrForm},
	}
	for _, c := range tests {
		l := words(c.s)
		got, place, err := expr.Eval(l, 0)
		is(t, "Eval of "+c.s, got, place, err, "", c.at, c.want)
		for n := range 3 {
			ahead := slices.Repeat(words("5"), n)
			got, place, err = expr.Eval(append(ahead, l...), n)
			is(t, "Eval of "+c.s+" behind others", got, place, err, "", n+c.at, c.want)
		}
	}
}

// P13.3: words that no line has
func TestEvalOfOtherWords(t *testing.T) {
	number := func(s string) api.Token { return api.Token{Kind: api.TkNumber, Text: s} }
	tests := []struct {
		l    []api.Token
		want string
		at   int
		err  api.Errno
	}{
		{[]api.Token{number("-5.0")}, "-5.0", 1, api.OK}, {[]api.Token{sign("-"), number("-5")}, "5", 2, api.OK}, {[]api.Token{number("+1,000")}, "1000", 1, api.OK}, {[]api.Token{number("1"), number("-2")}, "1", 1, api.OK}, {[]api.Token{number("1"), sign("/"), number("-0")}, "", 1, api.ErrZero},
		{[]api.Token{number("")}, "", 0, api.ErrForm}, {[]api.Token{number("-")}, "", 0, api.ErrForm}, {[]api.Token{number("1."), sign("+")}, "", 0, api.ErrForm}, {[]api.Token{number("1"), sign("+"), number("12,34")}, "", 2, api.ErrForm}, {[]api.Token{sign("("), number("x"), sign(")")}, "", 1, api.ErrForm}, {[]api.Token{sign("-"), number("(1)")}, "", 1, api.ErrForm}, {[]api.Token{number("1"), sign("/"), number("+")}, "", 2, api.ErrForm}, {[]api.Token{number("1"), number("x")}, "1", 1, api.OK},
		{[]api.Token{{}}, "", 0, api.ErrForm}, {[]api.Token{sign("")}, "", 0, api.ErrForm}, {[]api.Token{sign("--"), number("1")}, "", 0, api.ErrForm}, {[]api.Token{number("1"), sign("--"), number("1")}, "1", 1, api.OK}, {[]api.Token{number("1"), sign(""), number("1")}, "1", 1, api.OK}, {[]api.Token{number("1"), sign("**"), number("1")}, "1", 1, api.OK}, {[]api.Token{number("1"), sign("*/"), number("1")}, "1", 1, api.OK}, {[]api.Token{sign("("), number("1"), sign("))")}, "", 2, api.ErrForm},
		{[]api.Token{number("1"), {Kind: api.TkWord, Text: "+"}, number("1")}, "1", 1, api.OK}, {[]api.Token{number("1"), {Kind: api.TkText, Text: "-"}, number("1")}, "1", 1, api.OK}, {[]api.Token{number("1"), {Text: "*"}, number("1")}, "1", 1, api.OK}, {[]api.Token{{Kind: api.TkWord, Text: "("}, number("1"), sign(")")}, "", 0, api.ErrForm}, {[]api.Token{{Kind: api.TkCur, Text: "1"}}, "", 0, api.ErrForm}, {[]api.Token{sign("("), number("1"), {Kind: api.TkText, Text: ")"}}, "", 2, api.ErrForm}, {[]api.Token{{Kind: math.MaxInt, Text: "1"}}, "", 0, api.ErrForm}, {[]api.Token{{Kind: math.MinInt, Text: "-"}, number("1")}, "", 0, api.ErrForm}, {[]api.Token{sign("1")}, "", 0, api.ErrForm}, {[]api.Token{sign("-"), {Kind: api.TkText, Text: "-"}, number("1")}, "", 1, api.ErrForm},
	}
	for _, c := range tests {
		got, place, err := expr.Eval(c.l, 0)
		is(t, "Eval of "+written(c.l), got, place, err, c.want, c.at, c.err)
	}
}

// P13.3: 64 may stand within each other, signs ahead of factors and ( alike, and no more.
func TestEvalDeep(t *testing.T) {
	const deep = 64
	for _, signs := range []string{"-", "+", "(", "-(", "+-", "((-", "(-(+", "-----("} {
		for n := range 2 * deep {
			all := strings.Repeat(signs, n/len(signs)+1)[:n]
			shuts := strings.Repeat(")", strings.Count(all, "("))
			for _, within := range []string{"2", "1 + 1", "3 - 1", "4 / 2"} {
				l := words(all + within + shuts + "*1")
				if isReckoned(t, l, 0) != (n <= deep) {
					t.Fatalf("Eval of %s: what is to be told is wrong", written(l))
				}
			}
			if n > deep {
				// What is too deep is told ahead of what is wrong behind it.
				for _, within := range []string{"", "USD", "1 / 0", ")"} {
					got, place, err := expr.Eval(words("5 * 2 +"+all+within), 0)
					is(t, "Eval of "+all+within, got, place, err, "", 4+deep, api.ErrDeep)
				}
			}
		}
	}
	full := strings.Repeat("(", deep-1)
	for _, s := range []string{"-1", "-1 * -1", "-1 / +2 - -3", "(1)", "(1) + (2) * (3)", "(1 - 2)", "-1 - (2)"} {
		// What has come to its end is not counted any more.
		isReckoned(t, words(full+s), 0)
		isReckoned(t, words(full+s+strings.Repeat(")", deep-1)+" - "+full+s+strings.Repeat(")", deep-1)), 0)
	}
	for _, c := range []struct {
		s  string
		at int
	}{{"--1", deep}, {"(-1)", deep}, {"-(1)", deep}, {"((1))", deep}, {"1 + (-", deep + 2}, {"(1) - (1 - -", deep + 6}, {"-1 * - (", deep + 3}, {"1 / 0 + ((", -1}} {
		got, place, err := expr.Eval(words(full+c.s), 0)
		if c.at < 0 {
			is(t, "Eval of "+c.s, got, place, err, "", deep, api.ErrZero)
			continue
		}
		is(t, "Eval of "+c.s, got, place, err, "", c.at, api.ErrDeep)
	}
}

// sequences answers all lists of up to n of these words.
func sequences(these []api.Token, n int) [][]api.Token {
	l := [][]api.Token{nil}
	for from := 0; n > 0; n-- {
		to := len(l)
		for _, ahead := range l[from:to] {
			for _, w := range these {
				l = append(l, append(slices.Clip(ahead), w))
			}
		}
		from = to
	}
	return l
}

// P13.3: held against what is reckoned with stacks
func TestEvalOfAllShortLists(t *testing.T) {
	right := 0
	lists := append(sequences(words("3 0.0 + - * / ( ) USD"), 5), sequences(words("0 - / ( )"), 7)...)
	for _, l := range lists {
		if isReckoned(t, l, 0) {
			right++
		}
	}
	if right < 10_000 {
		t.Errorf("only %d lists are arithmetic", right)
	}
	for _, l := range sequences(words("2 - / )"), 4) {
		for at := range len(l) + 1 {
			isReckoned(t, l, at)
		}
	}
}

// random answers arithmetic as it comes, with parts within parts as deep at most as n.
func random(r *rand.Rand, n int) string {
	numbers := []string{"0", "0.00", "1", "2", "3", "7", "0.5", "1.50", "12.345", "1,000", "0.001", "1000000000", "999,999,999.99"}
	gaps := []string{"", " "}
	gap := gaps[r.Intn(len(gaps))]
	if n == 0 {
		return numbers[r.Intn(len(numbers))]
	}
	switch r.Intn(6) {
	case 0:
		return []string{"-", "+"}[r.Intn(2)] + gap + random(r, n-1)
	case 1:
		return "(" + gap + random(r, n-1) + gap + ")"
	case 2:
		return random(r, 0)
	}
	return random(r, n-1) + " " + []string{"+", "-", "*", "/"}[r.Intn(4)] + gap + random(r, n-1)
}

// P13.3, P13.4: arithmetic as it comes, whole, with words ahead, with words changed, and with what can't go on with it behind.
func TestEvalOfLongLists(t *testing.T) {
	r := rand.New(rand.NewSource(31))
	all := words("1 0 2.5 + - * / ( ) USD , } @")
	right := 0
	for n := range 6000 {
		l := words(random(r, n%7))
		if isReckoned(t, l, 0) {
			right++
		}
		isReckoned(t, l, r.Intn(len(l)+1))
		for range 4 {
			at := r.Intn(len(l))
			isReckoned(t, l[:at], 0)
			isReckoned(t, slices.Delete(slices.Clone(l), at, at+1), 0)
			isReckoned(t, slices.Insert(slices.Clone(l), at, all[r.Intn(len(all))]), 0)
			changed := slices.Clone(l)
			changed[at] = all[r.Intn(len(all))]
			isReckoned(t, changed, 0)
		}
	}
	if right < 3000 {
		t.Errorf("only %d lists are arithmetic", right)
	}
}

// P13.4
func TestWhatFollows(t *testing.T) {
	tails := [][]api.Token{{{}}, {sign("")}, {sign("--")}, {{Kind: api.TkWord, Text: "+"}}, {{Kind: api.TkNumber, Text: "x"}}}
	for _, s := range []string{"USD", "USD + 1", ")", ")) * 2", "(", "(1)", "(1 / 0", "5", "5 * 2", "2024-01-31", "~ 0.01 USD", ", 5", "}", "}}", "{", "{{5 USD}}", "@ 5 USD", "@@", "!", "\"a\"", "#a", "^a", "Assets:A - 1", "a", "a: - 1", ", / 0"} {
		tails = append(tails, words(s))
	}
	r := rand.New(rand.NewSource(134))
	for n := range 2000 {
		l := words(random(r, n%6))
		want, behind, err := expr.Eval(l, 0)
		if err != api.OK {
			continue
		}
		if behind != len(l) {
			t.Fatalf("Eval of %s: %d, want %d", written(l), behind, len(l))
		}
		for _, tail := range tails {
			got, place, err := expr.Eval(append(slices.Clone(l), tail...), 0)
			is(t, "Eval of "+written(l)+" with "+written(tail), got, place, err, dectext.Text(want), len(l), api.OK)
		}
	}
}

// R1, R2: whatever is handed in, there is an end, and nothing beside an error.
func TestAnythingEnds(t *testing.T) {
	var odd []api.Dec
	for i, coef := range []api.Nat{nil, {0}, {0, 0}, {5}, {5, 0}, {1_000_000_000}, {0, math.MaxUint32, 0}, slices.Repeat(api.Nat{math.MaxUint32}, 20)} {
		for _, scale := range []int{math.MinInt, -20, -1, 2, math.MaxInt - 9, math.MaxInt} {
			odd = append(odd, api.Dec{Neg: i%2 == 0, Coef: coef, Scale: scale})
		}
	}
	for i, a := range odd {
		for j, b := range odd {
			if i%5 == j%5 {
				if got, err := expr.Quo(a, b); err != api.OK {
					is(t, "Quo", got, 0, err, "", 0, err)
				}
			}
		}
	}
	for _, w := range append(words("- + ( 1"), api.Token{Kind: -7, Text: "\xff\x00"}, sign("\xff")) {
		l := slices.Repeat([]api.Token{w}, 200_000)
		got, place, err := expr.Eval(l, 0)
		switch {
		case w.Kind == api.TkNumber:
			is(t, "Eval", got, place, err, "1", 1, api.OK)
		case expr.Starts(w):
			is(t, "Eval", got, place, err, "", 64, api.ErrDeep)
		default:
			is(t, "Eval", got, place, err, "", 0, api.ErrForm)
		}
	}
}

// P13.3: lists of any length are read to their ends.
func TestLongLists(t *testing.T) {
	const often = 50_000
	tests := []struct{ s, want string }{
		{"1 + ", "50001"}, {"1 - ", "-49999"}, {"1 * ", "1"}, {"1 / ", "1"}, {"-1 + ", "-49999"}, {"(1) + ", "50001"}, {"-(-1) * ", "1"}, {"1.50 - 0.50 + ", "50001.00"}, {"2 * 3 / 6 + ", "50001"},
	}
	for _, c := range tests {
		l := append(slices.Repeat(words(c.s), often), words("1")...)
		got, place, err := expr.Eval(l, 0)
		is(t, "Eval of "+c.s+"so often", got, place, err, c.want, len(l), api.OK)
		got, place, err = expr.Eval(l[:len(l)-1], 0)
		is(t, "Eval of "+c.s+"so often, and no more", got, place, err, "", len(l)-1, api.ErrShort)
	}
	isReckoned(t, append(slices.Repeat(words("7 / "), 300), words("3")...), 0)
	isReckoned(t, append(slices.Repeat(words("1.5 * "), 1000), words("-3")...), 0)
	nines := strings.Repeat("9", 20_000)
	got, place, err := expr.Eval(words(nines+".0 + 1"), 0)
	is(t, "Eval of a long number", got, place, err, "1"+strings.Repeat("0", 20_000)+".0", 3, api.OK)
}

// R3, R4: what is handed in stays as it was, and what is answered is new.
func TestMemoryIsNew(t *testing.T) {
	for _, s := range []string{"5", "+5", "-5", "(5)", "5 + 0", "5 - 0", "5 * 1", "5 / 1", "0 - 5", "1 + (", "1 / 0"} {
		l := words(s + " USD")
		kept := slices.Clone(l)
		want, behind, wantErr := expr.Eval(l, 0)
		text := dectext.Text(want)
		for i := range want.Coef[:cap(want.Coef)] {
			want.Coef[:cap(want.Coef)][i] = 7
		}
		got, place, err := expr.Eval(l, 0)
		is(t, "Eval of "+s+" again", got, place, err, text, behind, wantErr)
		if !slices.Equal(l, kept) {
			t.Errorf("Eval of %s changed it: %v", s, l)
		}
	}
	coef := api.Nat{5, 6, 7, 8}
	for _, pair := range [][2]api.Dec{{{Coef: coef[:2]}, dec.Make(1, 0)}, {{Coef: coef[:2]}, {Coef: coef[:2]}}, {dec.Make(1, 0), {Coef: coef[:2], Scale: 3}}, {{Coef: coef[:2], Scale: 3}, dec.Make(0, 0)}} {
		got, _ := expr.Quo(pair[0], pair[1])
		for i := range got.Coef[:cap(got.Coef)] {
			got.Coef[:cap(got.Coef)][i] = 9
		}
		if !slices.Equal(coef, api.Nat{5, 6, 7, 8}) {
			t.Fatalf("Quo changed what it was given, or shares it: %v", coef)
		}
	}
}
