package amount_test

import (
	"math"
	"math/rand"
	"reflect"
	"slices"
	"strings"
	"testing"

	"quittance/amount"
	"quittance/api"
	"quittance/date"
	"quittance/dec"
	"quittance/dectext"
	"quittance/expr"
	"quittance/lex"
)

// number answers the decimal that is written as s; of an empty text the zero one.
func number(s string) api.Dec {
	if s == "" {
		return api.Dec{}
	}
	d, err := dectext.Parse(s)
	if err != api.OK {
		panic(s)
	}
	return d
}

// words answers the words of s, where no$ stands for a TkCur without a text, and noday for a TkDate that is no day.
func words(s string) []api.Token {
	l, fault := lex.Words(api.Line{No: 1, Text: strings.ReplaceAll(s, "no$", "nocur")})
	if fault != (api.Fault{}) {
		panic(s)
	}
	for i, w := range l {
		switch {
		case w.Kind == api.TkWord && w.Text == "nocur":
			l[i].Kind, l[i].Text = api.TkCur, ""
		case w.Kind == api.TkWord && w.Text == "noday":
			l[i].Kind, l[i].Text = api.TkDate, "2023-02-29"
		}
	}
	return l
}

// written answers words as they are written, with blanks between.
func written(l []api.Token) string {
	var all []string
	for _, w := range l {
		all = append(all, lex.Text(w))
	}
	return strings.Join(all, " ")
}

// day makes a day.
func day(year, month, n int) api.Date { return api.Date{Year: year, Month: month, Day: n} }

// units makes units of a number, if it is not empty, and a currency.
func units(num, cur string) api.Units {
	return api.Units{HasNum: num != "", Num: number(num), Cur: cur}
}

// cost makes a cost that is there.
func cost(total bool, num, cur string, d api.Date, label string) api.Cost {
	return api.Cost{Has: true, Total: total, HasNum: num != "", Num: number(num), Cur: cur, Date: d, Label: label}
}

// price makes a price that is there.
func price(total bool, num, cur string) api.Price {
	return api.Price{Has: true, Total: total, HasNum: num != "", Num: number(num), Cur: cur}
}

// plain answers a thing's own digits in one way, so that lists that are nil and empty ones are alike.
func plain(d api.Dec) api.Dec {
	d.Coef = append(api.Nat{}, d.Coef...)
	return d
}

// is checks what a call that reads tells: what was read, or its zero value beside an error, the place, and the error.
func is[T any](t *testing.T, what string, got T, place int, err api.Errno, want T, wantPlace int, wantErr api.Errno, same func(a, b T) bool) {
	t.Helper()
	if !same(got, want) || place != wantPlace || err != wantErr {
		t.Fatalf("%s: %v, %d, %d, want %v, %d, %d", what, got, place, err, want, wantPlace, wantErr)
	}
}

// sameAmount tells whether two amounts are the same, field by field.
func sameAmount(a, b api.Amount) bool {
	a.Num, b.Num = plain(a.Num), plain(b.Num)
	return reflect.DeepEqual(a, b)
}

// sameUnits tells whether two units are the same, field by field.
func sameUnits(a, b api.Units) bool {
	a.Num, b.Num = plain(a.Num), plain(b.Num)
	return reflect.DeepEqual(a, b)
}

// sameCost tells whether two costs are the same, field by field.
func sameCost(a, b api.Cost) bool {
	a.Num, b.Num = plain(a.Num), plain(b.Num)
	return reflect.DeepEqual(a, b)
}

// samePrice tells whether two prices are the same, field by field.
func samePrice(a, b api.Price) bool {
	a.Num, b.Num = plain(a.Num), plain(b.Num)
	return reflect.DeepEqual(a, b)
}

// P14.1
func TestAmount(t *testing.T) {
	tests := []struct {
		s, num, cur string
		place       int
	}{
		{"5 USD", "5", "USD", 2}, {"-5.00 USD", "-5.00", "USD", 3}, {"+5 USD", "5", "USD", 3}, {"1,000.50 ACME", "1000.50", "ACME", 2}, {"0 USD", "0", "USD", 2}, {"-0.00 A", "0.00", "A", 3}, {"5USD", "5", "USD", 2},
		{"(1.5 + 2) * 3 VACHR-2024.1", "10.5", "VACHR-2024.1", 8}, {"10 / 4 USD", "2.5", "USD", 4}, {"1 / 3 USD", "0.3333333333", "USD", 4}, {"2 - -3 U'S_D", "5", "U'S_D", 5}, {"5 USD - 3 USD", "5", "USD", 2}, {"5 USD USD", "5", "USD", 2}, {"5 USD {3 EUR}", "5", "USD", 2}, {"5 USD, 6 USD", "5", "USD", 2},
		{"5 no$", "5", "", 2}, {"1 + 2 no$ USD", "3", "", 4}, {"5 no$ no$", "5", "", 2},
	}
	for _, c := range tests {
		got, place, err := amount.Amount(words(c.s), 0)
		is(t, "Amount of "+c.s, got, place, err, api.Amount{Num: number(c.num), Cur: c.cur}, c.place, api.OK, sameAmount)
		got, place, err = amount.Amount(words("5 USD * no$ / "+c.s), 5)
		is(t, "Amount behind others of "+c.s, got, place, err, api.Amount{Num: number(c.num), Cur: c.cur}, 5+c.place, api.OK, sameAmount)
	}
}

// P14.1: the first fault, and its word's place
func TestAmountFaults(t *testing.T) {
	tests := []struct {
		s     string
		at    int
		place int
		want  api.Errno
	}{
		{"", 0, 0, api.ErrShort}, {"5", 0, 1, api.ErrShort}, {"1 + 2", 0, 3, api.ErrShort}, {"5 USD", 2, 2, api.ErrShort}, {"-", 0, 1, api.ErrShort}, {"(5", 0, 2, api.ErrShort}, {"5 *", 0, 2, api.ErrShort},
		{"USD", 0, 0, api.ErrForm}, {"USD 5", 0, 0, api.ErrForm}, {"5 6 USD", 0, 1, api.ErrForm}, {"5 Assets:Bank", 0, 1, api.ErrForm}, {"5 \"USD\"", 0, 1, api.ErrForm}, {"5 usd", 0, 1, api.ErrForm}, {"5 usd:", 0, 1, api.ErrForm}, {"5 #USD", 0, 1, api.ErrForm}, {"5 ^USD", 0, 1, api.ErrForm}, {"5 2024-01-31 USD", 0, 1, api.ErrForm}, {"5 ~ USD", 0, 1, api.ErrForm}, {"5 {USD}", 0, 1, api.ErrForm}, {"(5 USD)", 0, 2, api.ErrForm}, {"5 + USD", 0, 2, api.ErrForm}, {"no$", 0, 0, api.ErrForm}, {"5 USD", 1, 1, api.ErrForm},
		{"1 / 0 USD", 0, 1, api.ErrZero}, {"1 + 2 / 0 USD", 0, 3, api.ErrZero}, {strings.Repeat("-", 65) + "5 USD", 0, 64, api.ErrDeep}, {strings.Repeat("(", 70), 0, 64, api.ErrDeep},
	}
	for _, c := range tests {
		got, place, err := amount.Amount(words(c.s), c.at)
		is(t, "Amount of "+c.s, got, place, err, api.Amount{}, c.place, c.want, sameAmount)
	}
}

// P14.2
func TestUnits(t *testing.T) {
	tests := []struct {
		s, num, cur string
		place       int
	}{
		{"USD", "", "USD", 1}, {"USD 5", "", "USD", 1}, {"USD EUR", "", "USD", 1}, {"USD + 5", "", "USD", 1}, {"no$", "", "", 1}, {"no$ USD", "", "", 1}, {"no$ 5 USD", "", "", 1},
		{"5 USD", "5", "USD", 2}, {"-5.00 USD", "-5.00", "USD", 3}, {"+5 USD", "5", "USD", 3}, {"(1 + 2) USD EUR", "3", "USD", 6}, {"0.00 USD", "0.00", "USD", 2}, {"5 no$", "5", "", 2},
		{"", "", "", 0}, {"{5 USD}", "", "", 0}, {"@ 5 USD", "", "", 0}, {"* 5 USD", "", "", 0}, {"/ 5 USD", "", "", 0}, {") 5 USD", "", "", 0}, {", 5 USD", "", "", 0}, {"~ 5 USD", "", "", 0}, {"! 5 USD", "", "", 0}, {"2024-01-31", "", "", 0}, {"noday", "", "", 0}, {"Assets:Bank 5 USD", "", "", 0}, {"\"USD\"", "", "", 0}, {"#USD", "", "", 0}, {"^USD", "", "", 0}, {"usd", "", "", 0}, {"usd: 5", "", "", 0},
	}
	for _, c := range tests {
		got, place, err := amount.Units(words(c.s), 0)
		is(t, "Units of "+c.s, got, place, err, units(c.num, c.cur), c.place, api.OK, sameUnits)
		got, place, err = amount.Units(words("5 + Assets:Bank "+c.s), 3)
		is(t, "Units behind others of "+c.s, got, place, err, units(c.num, c.cur), 3+c.place, api.OK, sameUnits)
	}
	for _, c := range []struct {
		s     string
		place int
		want  api.Errno
	}{
		{"5", 1, api.ErrShort}, {"-", 1, api.ErrShort}, {"(", 1, api.ErrShort}, {"1 +", 2, api.ErrShort}, {"5 {3 USD}", 1, api.ErrForm}, {"- USD", 1, api.ErrForm}, {"5 @ 3 USD", 1, api.ErrForm}, {"5 * USD", 2, api.ErrForm}, {"(5 USD)", 2, api.ErrForm}, {"+ )", 1, api.ErrForm}, {"2 / 0 USD", 1, api.ErrZero}, {strings.Repeat("+", 65), 64, api.ErrDeep},
	} {
		got, place, err := amount.Units(words(c.s), 0)
		is(t, "Units of "+c.s, got, place, err, api.Units{}, c.place, c.want, sameUnits)
	}
}

// P14.3: what is read to its end
func TestCost(t *testing.T) {
	none, first, second := api.Date{}, day(2024, 1, 2), day(2024, 1, 3)
	tests := []struct {
		s    string
		want api.Cost
	}{
		{"{}", cost(false, "", "", none, "")}, {"{{}}", cost(true, "", "", none, "")}, {"{100 USD, 2024-01-02, \"a\"}", cost(false, "100", "USD", first, "a")}, {"{{100 USD, 2024-01-02, \"a\"}}", cost(true, "100", "USD", first, "a")},
		{"{\"a\", 2024/01/02, 100 USD}", cost(false, "100", "USD", first, "a")}, {"{2024-01-03}", cost(false, "", "", second, "")}, {"{\"a \\\"b\\\"\"}", cost(false, "", "", none, "a \"b\"")}, {"{USD}", cost(false, "", "USD", none, "")}, {"{{ USD }}", cost(true, "", "USD", none, "")}, {"{-1.50 USD}", cost(false, "-1.50", "USD", none, "")}, {"{0 USD}", cost(false, "0", "USD", none, "")}, {"{(1 + 2) / 4 USD, \"b\"}", cost(false, "0.75", "USD", none, "b")}, {"{2024-01-02, EUR}", cost(false, "", "EUR", first, "")}, {"{\"a\", 5 USD}", cost(false, "5", "USD", none, "a")},
		// Words that are read, and say nothing.
		{"{no$}", cost(false, "", "", none, "")}, {"{no$, no$, no$}", cost(false, "", "", none, "")}, {"{no$, USD}", cost(false, "", "USD", none, "")}, {"{no$, 5 USD}", cost(false, "5", "USD", none, "")}, {"{5 no$}", cost(false, "5", "", none, "")}, {"{5 no$, 6.0 no$}", cost(false, "6.0", "", none, "")}, {"{5 no$, 6 no$, 7 USD}", cost(false, "7", "USD", none, "")}, {"{5 no$, USD}", cost(false, "5", "USD", none, "")}, {"{5 no$, no$}", cost(false, "5", "", none, "")}, {"{5 no$, 0 no$}", cost(false, "0", "", none, "")},
		{"{noday}", cost(false, "", "", none, "")}, {"{{noday, noday}}", cost(true, "", "", none, "")}, {"{noday, 2024-01-02}", cost(false, "", "", first, "")}, {"{noday, noday, 2024-01-03, USD}", cost(false, "", "USD", second, "")},
	}
	for _, c := range tests {
		l := words(c.s)
		got, place, err := amount.Cost(l, 0)
		is(t, "Cost of "+c.s, got, place, err, c.want, len(l), api.OK, sameCost)
		got, place, err = amount.Cost(words("} {{ 5 ,"+c.s+" } }} , @"), 4)
		is(t, "Cost among others of "+c.s, got, place, err, c.want, 4+len(l), api.OK, sameCost)
	}
	for _, s := range []string{"", "5 USD", "USD", "}", "}}", ",", "(5 USD)", "@ 5 USD", "\"{\"", "2024-01-02", "no$", "#a {", "a {}"} {
		got, place, err := amount.Cost(words(s), 0)
		is(t, "Cost of "+s, got, place, err, api.Cost{}, 0, api.OK, sameCost)
	}
	got, place, err := amount.Cost([]api.Token{{Kind: api.TkText, Text: "{"}, {Kind: api.TkSign, Text: "}"}}, 0)
	is(t, "Cost of a text", got, place, err, api.Cost{}, 0, api.OK, sameCost)
}

// P14.3: the first fault, and its word's place
func TestCostFaults(t *testing.T) {
	tests := []struct {
		s     string
		place int
		want  api.Errno
	}{
		{"{", 1, api.ErrShort}, {"{{", 1, api.ErrShort}, {"{5", 2, api.ErrShort}, {"{5 USD", 3, api.ErrShort}, {"{{5 USD", 3, api.ErrShort}, {"{USD", 2, api.ErrShort}, {"{USD,", 3, api.ErrShort}, {"{2024-01-02", 2, api.ErrShort}, {"{\"a\",", 3, api.ErrShort}, {"{-", 2, api.ErrShort}, {"{no$", 2, api.ErrShort}, {"{5 no$,", 4, api.ErrShort},
		{"{}}", 1, api.ErrForm}, {"{{ }", 1, api.ErrForm}, {"{5 USD}}", 3, api.ErrForm}, {"{{5 USD}", 3, api.ErrForm}, {"{,}", 1, api.ErrForm}, {"{, USD}", 1, api.ErrForm}, {"{USD,}", 3, api.ErrForm}, {"{USD,, \"a\"}", 3, api.ErrForm}, {"{USD \"a\"}", 2, api.ErrForm}, {"{5}", 2, api.ErrForm}, {"{5, USD}", 2, api.ErrForm}, {"{5 \"a\"}", 2, api.ErrForm}, {"{{{5 USD}}}", 1, api.ErrForm}, {"{@ 5 USD}", 1, api.ErrForm}, {"{* 5 USD}", 1, api.ErrForm}, {"{#a}", 1, api.ErrForm}, {"{^a}", 1, api.ErrForm}, {"{a}", 1, api.ErrForm}, {"{a: 5 USD}", 1, api.ErrForm}, {"{Assets:Bank}", 1, api.ErrForm}, {"{5 USD EUR}", 3, api.ErrForm}, {"{5 USD; 6}", 3, api.ErrShort}, {"{USD 5}", 2, api.ErrForm}, {"{\"\"}", 1, api.ErrForm}, {"{USD, \"\"}", 3, api.ErrForm}, {"{5 USD ~ 6 USD}", 3, api.ErrForm},
		{"{1 / 0 USD}", 2, api.ErrZero}, {"{\"a\", 2 * 1 / 0 USD}", 6, api.ErrZero}, {"{" + strings.Repeat("-", 65) + "5 USD}", 65, api.ErrDeep},
		// Parts that come again.
		{"{USD, USD}", 3, api.ErrForm}, {"{USD, EUR}", 3, api.ErrForm}, {"{USD, 5 EUR}", 3, api.ErrForm}, {"{5 USD, EUR}", 4, api.ErrForm}, {"{5 USD, 5 USD}", 4, api.ErrForm}, {"{5 USD, -(5) USD}", 4, api.ErrForm}, {"{USD, no$}", 3, api.ErrForm}, {"{5 USD, no$}", 4, api.ErrForm}, {"{USD, 5 no$}", 3, api.ErrForm}, {"{5 no$, USD, 6 no$}", 6, api.ErrForm}, {"{no$, USD, no$}", 5, api.ErrForm}, {"{5 no$, 6 USD, 7 no$}", 7, api.ErrForm},
		{"{\"a\", \"a\"}", 3, api.ErrForm}, {"{\"a\", \"b\"}", 3, api.ErrForm}, {"{\"a\", USD, \"b\"}", 5, api.ErrForm}, {"{\"a\", \"\"}", 3, api.ErrForm},
		{"{2024-01-02, 2024-01-02}", 3, api.ErrForm}, {"{2024-01-02, 2024-01-03}", 3, api.ErrForm}, {"{2024-01-02, noday}", 3, api.ErrForm}, {"{noday, 2024-01-02, noday}", 5, api.ErrForm}, {"{2024-01-02, USD, \"a\", 2024/01/02}", 7, api.ErrForm},
		// What begins a part that comes again is wrong ahead of what is wrong behind.
		{"{USD, 5", 3, api.ErrForm}, {"{USD, 5}", 3, api.ErrForm}, {"{USD, 1 / 0 USD}", 3, api.ErrForm}, {"{USD, -", 3, api.ErrForm}, {"{USD, EUR", 3, api.ErrForm}, {"{\"a\" 5, \"b\"}", 2, api.ErrForm},
	}
	for _, c := range tests {
		got, place, err := amount.Cost(words(c.s), 0)
		is(t, "Cost of "+c.s, got, place, err, api.Cost{}, c.place, c.want, sameCost)
		got, place, err = amount.Cost(words("5 {USD, } "+c.s), 5)
		is(t, "Cost behind others of "+c.s, got, place, err, api.Cost{}, 5+c.place, c.want, sameCost)
	}
}

// P14.4
func TestPrice(t *testing.T) {
	tests := []struct {
		s     string
		want  api.Price
		place int
	}{
		{"@ 5 USD", price(false, "5", "USD"), 3}, {"@@ 5 USD", price(true, "5", "USD"), 3}, {"@5USD", price(false, "5", "USD"), 3}, {"@ -5.00 USD", price(false, "-5.00", "USD"), 4}, {"@ (1 + 2) USD, 5", price(false, "3", "USD"), 7}, {"@ USD", price(false, "", "USD"), 2}, {"@@ USD EUR", price(true, "", "USD"), 2}, {"@ 5 no$ USD", price(false, "5", ""), 3}, {"@ no$ USD", price(false, "", ""), 2},
		{"@", price(false, "", ""), 1}, {"@@", price(true, "", ""), 1}, {"@ \"a\"", price(false, "", ""), 1}, {"@ {5 USD}", price(false, "", ""), 1}, {"@@ @ 5 USD", price(true, "", ""), 1}, {"@ @ 5 USD", price(false, "", ""), 1}, {"@@@ 5 USD", price(true, "", ""), 1}, {"@ * 5 USD", price(false, "", ""), 1},
		{"", api.Price{}, 0}, {"5 USD", api.Price{}, 0}, {"USD", api.Price{}, 0}, {"{5 USD}", api.Price{}, 0}, {"\"@\" 5 USD", api.Price{}, 0}, {"no$ @ 5 USD", api.Price{}, 0}, {"! @", api.Price{}, 0},
	}
	for _, c := range tests {
		got, place, err := amount.Price(words(c.s), 0)
		is(t, "Price of "+c.s, got, place, err, c.want, c.place, api.OK, samePrice)
		got, place, err = amount.Price(words("{ @ 5 "+c.s), 3)
		is(t, "Price behind others of "+c.s, got, place, err, c.want, 3+c.place, api.OK, samePrice)
	}
	for _, c := range []struct {
		s     string
		place int
		want  api.Errno
	}{
		{"@ 5", 2, api.ErrShort}, {"@@ 5", 2, api.ErrShort}, {"@ -", 2, api.ErrShort}, {"@ 1 + (2", 5, api.ErrShort}, {"@ 5 @ USD", 2, api.ErrForm}, {"@@ (USD)", 2, api.ErrForm}, {"@ 5 6", 2, api.ErrForm}, {"@ 5 \"USD\"", 2, api.ErrForm}, {"@ 1 / 0 USD", 2, api.ErrZero}, {"@" + strings.Repeat("-", 65) + "5 USD", 65, api.ErrDeep},
	} {
		got, place, err := amount.Price(words(c.s), 0)
		is(t, "Price of "+c.s, got, place, err, api.Price{}, c.place, c.want, samePrice)
	}
}

// P14.1 to P14.4: there is no such place; or it is behind the last word.
func TestNoPlace(t *testing.T) {
	for _, s := range []string{"", "USD", "5 USD", "{5 USD}", "@ 5 USD", "{", "@@", "5", "1 / 0"} {
		l := words(s)
		for _, at := range []int{math.MinInt, math.MinInt + 1, -2, -1, len(l) + 1, len(l) + 2, math.MaxInt - 1, math.MaxInt} {
			a, place, err := amount.Amount(l, at)
			is(t, "Amount of "+s, a, place, err, api.Amount{}, at, api.ErrArg, sameAmount)
			u, place, err := amount.Units(l, at)
			is(t, "Units of "+s, u, place, err, api.Units{}, at, api.ErrArg, sameUnits)
			c, place, err := amount.Cost(l, at)
			is(t, "Cost of "+s, c, place, err, api.Cost{}, at, api.ErrArg, sameCost)
			p, place, err := amount.Price(l, at)
			is(t, "Price of "+s, p, place, err, api.Price{}, at, api.ErrArg, samePrice)
		}
		a, place, err := amount.Amount(l, len(l))
		is(t, "Amount behind "+s, a, place, err, api.Amount{}, len(l), api.ErrShort, sameAmount)
		u, place, err := amount.Units(l, len(l))
		is(t, "Units behind "+s, u, place, err, api.Units{}, len(l), api.OK, sameUnits)
		c, place, err := amount.Cost(l, len(l))
		is(t, "Cost behind "+s, c, place, err, api.Cost{}, len(l), api.OK, sameCost)
		p, place, err := amount.Price(l, len(l))
		is(t, "Price behind "+s, p, place, err, api.Price{}, len(l), api.OK, samePrice)
	}
}

// P14.1 to P14.4: what lies in the room behind the list's end is not of it.
func TestRoomBehind(t *testing.T) {
	l := words("{5 USD, EUR} @ 5 USD")
	for n, want := range []int{0, 1, 2, 3, 4, 4} {
		c, place, err := amount.Cost(l[:n], 0)
		wantErr := api.ErrShort
		switch n {
		case 0:
			wantErr = api.OK
		case 5:
			wantErr = api.ErrForm
		}
		is(t, "Cost of "+written(l[:n]), c, place, err, api.Cost{}, want, wantErr, sameCost)
	}
	p, place, err := amount.Price(l[:7], 6)
	is(t, "Price of its sign alone", p, place, err, price(false, "", ""), 7, api.OK, samePrice)
	a, place, err := amount.Amount(l[:8], 7)
	is(t, "Amount of a number alone", a, place, err, api.Amount{}, 8, api.ErrShort, sameAmount)
	u, place, err := amount.Units(l[:8], 9)
	is(t, "Units behind the end", u, place, err, api.Units{}, 9, api.ErrArg, sameUnits)
}

// part is what a cost's part turned out to be: its first word's place, and what of a cost it tells.
type part struct {
	at   int
	told api.Cost
}

// costByParts answers what Cost is to tell: it parts the words first, each part by itself, and then holds each part against those ahead of it; the fault that is first in the words counts.
func costByParts(l []api.Token, at int) (api.Cost, int, api.Errno) {
	first := at
	end := map[string]string{"{": "}", "{{": "}}"}[signAt(l, at)]
	if end == "" {
		return api.Cost{}, at, api.OK
	}
	var all []part
	var wrong api.Errno
	at++
	for more := signAt(l, at) != end; more; at++ {
		p := part{at: at}
		p.told, at, wrong = onePart(l, at)
		all = append(all, p)
		if wrong != api.OK {
			break
		}
		if sign := signAt(l, at); sign != end && sign != "," {
			wrong = short(l, at)
			break
		}
		more = signAt(l, at) == ","
	}
	c := api.Cost{Has: true, Total: end == "}}"}
	for i, p := range all {
		for _, q := range all[:i] {
			if again(q.told, p.told) {
				return api.Cost{}, p.at, api.ErrForm
			}
		}
		if p.told.HasNum {
			c.HasNum, c.Num = true, p.told.Num
		}
		c.Cur += p.told.Cur
		c.Label += p.told.Label
		if p.told.Date.Year > 0 {
			c.Date = p.told.Date
		}
	}
	if wrong != api.OK {
		return api.Cost{}, at, wrong
	}
	if len(all) == 0 {
		at = first + 2
	}
	return c, at, api.OK
}

// signAt answers the sign at that place, if there is one.
func signAt(l []api.Token, at int) string {
	if at >= len(l) || l[at].Kind != api.TkSign {
		return ""
	}
	return l[at].Text
}

// short answers what is wrong where another word is missing.
func short(l []api.Token, at int) api.Errno {
	if at >= len(l) {
		return api.ErrShort
	}
	return api.ErrForm
}

// onePart reads a part by itself. Has stands for one of a currency, with or without one, Date.Month for one of a day.
func onePart(l []api.Token, at int) (api.Cost, int, api.Errno) {
	if at >= len(l) {
		return api.Cost{}, at, api.ErrShort
	}
	w := l[at]
	switch w.Kind {
	case api.TkDate:
		d, err := date.Parse(w.Text)
		if err != api.OK {
			d = api.Date{Month: 99}
		}
		return api.Cost{Date: d}, at + 1, api.OK
	case api.TkText:
		if w.Text != "" {
			return api.Cost{Label: w.Text}, at + 1, api.OK
		}
	case api.TkCur:
		return api.Cost{Has: true, Cur: w.Text}, at + 1, api.OK
	case api.TkNumber, api.TkSign:
		if w.Kind == api.TkSign && !strings.Contains("+-(", w.Text) {
			break
		}
		num, behind, err := expr.Eval(l, at)
		switch {
		case err != api.OK:
			return api.Cost{Has: true}, behind, err
		case behind == len(l) || l[behind].Kind != api.TkCur:
			return api.Cost{Has: true}, behind, short(l, behind)
		}
		return api.Cost{Has: true, HasNum: true, Num: num, Cur: l[behind].Text}, behind + 1, api.OK
	}
	return api.Cost{}, at, api.ErrForm
}

// again tells whether the part b comes again behind a.
func again(a, b api.Cost) bool {
	return a.Cur != "" && b.Has || a.Label != "" && b.Label != "" || a.Date.Year > 0 && b.Date.Month > 0
}

// isCost checks what Cost tells of the words from at on; it tells whether that is a cost.
func isCost(t *testing.T, l []api.Token, at int) bool {
	t.Helper()
	want, wantPlace, wantErr := costByParts(l, at)
	got, place, err := amount.Cost(l, at)
	is(t, "Cost of "+written(l), got, place, err, want, wantPlace, wantErr, sameCost)
	return got.Has
}

// P14.3: all short lists of words, ahead of which a { or {{ stands
func TestCostOfAllShortLists(t *testing.T) {
	kinds := words("{ {{ } }} , 5 - / 0 USD no$ noday 2024-01-02 \"a\" \"\"")
	read := 0
	for _, most := range []struct{ first, more int }{{0, 5}, {1, 4}} {
		l := []api.Token{kinds[most.first]}
		var grow func(more int)
		grow = func(more int) {
			if isCost(t, l, 0) {
				read++
			}
			if more == 0 {
				return
			}
			for _, w := range kinds {
				l = append(l, w)
				grow(more - 1)
				l = l[:len(l)-1]
			}
		}
		grow(most.more)
	}
	if read < 100 {
		t.Errorf("%d costs alone were read", read)
	}
}

// pieces are what lines are put together from.
var pieces = []string{"5", "USD", "5 USD", "-1.50 EUR", "(1 + 2) / 4 A", "1 / 0 USD", "2024-01-02", "2024/02/29", "\"a\"", "\"\\\\ \\\"\"", "\"\"", "noday", "no$", "7 no$", "{", "}", "@", "a", "#b", "2 * 3.0 ACME", "-"}

// costs answers costs of these pieces, and, mostly, commas between.
func costs(times int) []string {
	random := rand.New(rand.NewSource(14))
	all := make([]string, times)
	for i := range all {
		some := make([]string, random.Intn(5))
		for j := range some {
			some[j] = pieces[random.Intn(len(pieces))]
		}
		s := strings.Join(some, ", ")
		if i%7 == 0 {
			s = strings.Join(some, " ")
		}
		if i%2 == 0 {
			all[i] = "{" + s + "}"
		} else {
			all[i] = "{{ " + s + " }}"
		}
	}
	return all
}

// P14.3
func TestCostOfMore(t *testing.T) {
	read := 0
	for _, s := range costs(60_000) {
		l := words(s)
		for at := range l {
			if isCost(t, l, at) {
				read++
			}
		}
	}
	if read < 5000 {
		t.Errorf("%d costs alone were read", read)
	}
}

// P14.5
func TestAmountText(t *testing.T) {
	for _, c := range []struct{ num, cur, want string }{
		{"5", "USD", "5 USD"}, {"-5.00", "USD", "-5.00 USD"}, {"1,000.50", "A", "1000.50 A"}, {"0", "USD", "0 USD"}, {"0.00", "VACHR-2024.1", "0.00 VACHR-2024.1"}, {"007", "USD", "7 USD"}, {"-0.001", "EUR", "-0.001 EUR"}, {"5", "", "5 "}, {"", "", "0 "}, {"12345678901234567890.123", "USD", "12345678901234567890.123 USD"},
	} {
		if got := amount.AmountText(api.Amount{Num: number(c.num), Cur: c.cur}); got != c.want {
			t.Errorf("AmountText of %s and %s: %q, want %q", c.num, c.cur, got, c.want)
		}
		if c.num == "" {
			c.want = ""
		}
		if got := amount.UnitsText(units(c.num, c.cur)); got != c.want {
			t.Errorf("UnitsText of %s and %s: %q, want %q", c.num, c.cur, got, c.want)
		}
		if got := amount.UnitsText(api.Units{Num: number(c.num), Cur: c.cur}); got != c.cur {
			t.Errorf("UnitsText without %s of %s: %q", c.num, c.cur, got)
		}
	}
}

// P14.6
func TestCostText(t *testing.T) {
	none, first := api.Date{}, day(2024, 1, 2)
	tests := []struct {
		c    api.Cost
		want string
	}{
		{api.Cost{}, ""}, {cost(false, "", "", none, ""), "{}"}, {cost(true, "", "", none, ""), "{{}}"}, {cost(false, "100", "USD", first, "a"), "{100 USD, 2024-01-02, \"a\"}"}, {cost(true, "100", "USD", first, "a"), "{{100 USD, 2024-01-02, \"a\"}}"},
		{cost(false, "-1.50", "USD", none, ""), "{-1.50 USD}"}, {cost(true, "", "USD", none, ""), "{{USD}}"}, {cost(false, "", "", first, ""), "{2024-01-02}"}, {cost(true, "", "", none, "a"), "{{\"a\"}}"}, {cost(false, "5", "USD", first, ""), "{5 USD, 2024-01-02}"}, {cost(false, "5", "USD", none, "a"), "{5 USD, \"a\"}"}, {cost(false, "", "", first, "a b"), "{2024-01-02, \"a b\"}"}, {cost(false, "", "EUR", first, ""), "{EUR, 2024-01-02}"}, {cost(false, "", "", none, "\"\\\n\t"), "{\"\\\"\\\\\\n\\t\"}"}, {cost(false, "0.00", "USD", none, ""), "{0.00 USD}"},
		{cost(false, "5", "", first, ""), "{5 , 2024-01-02}"}, {cost(false, "5", "USD", day(2023, 2, 29), "a"), "{5 USD, \"a\"}"}, {cost(false, "", "", day(2024, 0, 1), ""), "{}"}, {cost(true, "", "", day(-1, 1, 1), "x"), "{{\"x\"}}"}, {cost(false, "", "", day(9999, 12, 31), ""), "{9999-12-31}"}, {cost(false, "", "", day(10_000, 1, 1), ""), "{}"}, {cost(false, "", "", day(math.MinInt, math.MaxInt, 1), ""), "{}"},
		{api.Cost{Has: true, Num: number("5"), Cur: "USD"}, "{USD}"}, {api.Cost{Has: true, Num: number("5")}, "{}"}, {api.Cost{Total: true, HasNum: true, Num: number("5"), Cur: "USD", Date: first, Label: "a"}, ""},
	}
	for _, c := range tests {
		if got := amount.CostText(c.c); got != c.want {
			t.Errorf("CostText of %v: %q, want %q", c.c, got, c.want)
		}
	}
}

// P14.7
func TestPriceText(t *testing.T) {
	tests := []struct {
		p    api.Price
		want string
	}{
		{api.Price{}, ""}, {price(false, "", ""), "@"}, {price(true, "", ""), "@@"}, {price(false, "5", "USD"), "@ 5 USD"}, {price(true, "5", "USD"), "@@ 5 USD"}, {price(false, "-5.00", "USD"), "@ -5.00 USD"}, {price(false, "", "USD"), "@ USD"}, {price(true, "", "USD"), "@@ USD"}, {price(false, "5", ""), "@ 5 "}, {price(false, "0", "USD"), "@ 0 USD"},
		{api.Price{Has: true, Num: number("5"), Cur: "USD"}, "@ USD"}, {api.Price{Has: true, Num: number("5")}, "@"}, {api.Price{Total: true, HasNum: true, Num: number("5"), Cur: "USD"}, ""},
	}
	for _, c := range tests {
		if got := amount.PriceText(c.p); got != c.want {
			t.Errorf("PriceText of %v: %q, want %q", c.p, got, c.want)
		}
	}
}

// decimals answers numbers of which no two are alike, though some are of one value.
func decimals() []api.Dec {
	return []api.Dec{{}, dec.Make(0, 1), dec.Make(5, 0), dec.Make(-5, 0), dec.Make(50, 1), dec.Make(5, 1), dec.Make(1_000_000_000, 0), number("12345678901234567890.5"), number("12345678901234567891.5")}
}

// P14.8
func TestSame(t *testing.T) {
	var all []api.Cost
	for _, num := range decimals() {
		for bits := range 8 {
			for _, cur := range []string{"", "USD"} {
				for _, d := range []api.Date{{}, day(2024, 1, 2), day(2024, 1, 3), day(2024, 2, 2), day(2023, 1, 2)} {
					for _, label := range []string{"", "a"} {
						all = append(all, api.Cost{Has: bits&1 > 0, Total: bits&2 > 0, HasNum: bits&4 > 0, Num: num, Cur: cur, Date: d, Label: label})
					}
				}
			}
		}
	}
	for i, a := range all {
		u, p := api.Units{HasNum: a.HasNum, Num: a.Num, Cur: a.Cur}, api.Price{Has: a.Has, Total: a.Total, HasNum: a.HasNum, Num: a.Num, Cur: a.Cur}
		for j, b := range all {
			b.Num = plain(b.Num)
			if got := amount.SameCost(a, b); got != (i == j) {
				t.Fatalf("SameCost of %v and %v: %v", a, b, got)
			}
			v, q := api.Units{HasNum: b.HasNum, Num: b.Num, Cur: b.Cur}, api.Price{Has: b.Has, Total: b.Total, HasNum: b.HasNum, Num: b.Num, Cur: b.Cur}
			if got := amount.SameUnits(u, v); got != sameUnits(u, v) {
				t.Fatalf("SameUnits of %v and %v: %v", u, v, got)
			}
			if got := amount.SamePrice(p, q); got != samePrice(p, q) {
				t.Fatalf("SamePrice of %v and %v: %v", p, q, got)
			}
		}
	}
	if !amount.SameUnits(units("5", "USD"), units("5", "USD")) || amount.SameUnits(units("5", "USD"), units("5", "usd")) || amount.SameCost(cost(false, "", "", api.Date{}, "a"), cost(false, "", "", api.Date{}, "a ")) {
		t.Error("texts are not told apart")
	}
}

// P14.9: what was read of words of a line is read again from its text, to its end, and has the same text.
func TestReadAgain(t *testing.T) {
	read := 0
	for _, s := range append(costs(20_000), "5 USD", "-(1 / 3) EUR", "@ 5 USD", "@@ -1.50 A", "@", "@@ USD", "USD", "{100 USD, 2024-01-02, \"a\"}") {
		if strings.Contains(s, "no") {
			continue
		}
		l := words(s)
		for at := range l {
			if a, _, err := amount.Amount(l, at); err == api.OK {
				again := words(amount.AmountText(a))
				b, place, err := amount.Amount(again, 0)
				is(t, "Amount again of "+amount.AmountText(a), b, place, err, a, len(again), api.OK, sameAmount)
			}
			if u, _, err := amount.Units(l, at); err == api.OK {
				again := words(amount.UnitsText(u))
				v, place, err := amount.Units(again, 0)
				is(t, "Units again of "+amount.UnitsText(u), v, place, err, u, len(again), api.OK, amount.SameUnits)
			}
			if c, _, err := amount.Cost(l, at); err == api.OK {
				again := words(amount.CostText(c))
				d, place, err := amount.Cost(again, 0)
				is(t, "Cost again of "+amount.CostText(c), d, place, err, c, len(again), api.OK, amount.SameCost)
				read++
			}
			if p, _, err := amount.Price(append(words("@"), l[at:]...), 0); err == api.OK {
				again := words(amount.PriceText(p))
				q, place, err := amount.Price(again, 0)
				is(t, "Price again of "+amount.PriceText(p), q, place, err, p, len(again), api.OK, amount.SamePrice)
			}
		}
	}
	if read < 1000 {
		t.Errorf("%d costs alone were read", read)
	}
}

// R3, R4: what is handed in stays as it was, and what is answered is new memory.
func TestMemory(t *testing.T) {
	room := words("{1,000,000,000.50 USD, 2024-01-02, \"a\"} @ 1,000,000,000.50 USD 7 EUR")
	l := room[:11]
	before := slices.Clone(room)
	for range 2 {
		a, _, _ := amount.Amount(l, 1)
		u, _, _ := amount.Units(l, 1)
		c, _, _ := amount.Cost(l, 0)
		p, _, _ := amount.Price(l, 8)
		for _, d := range []api.Dec{a.Num, u.Num, c.Num, p.Num} {
			if dectext.Text(d) != "1000000000.50" {
				t.Fatalf("%v was read", d)
			}
			clear(d.Coef)
		}
	}
	if !slices.Equal(room, before) {
		t.Error("the words were changed")
	}
	long := append(make(api.Nat, 0, 8), 1, 2, 3)
	behind := append(slices.Clone(long), 4, 5)
	copy(long[:5], behind)
	d := api.Dec{Coef: long, Scale: 2}
	amount.AmountText(api.Amount{Num: d, Cur: "USD"})
	amount.UnitsText(api.Units{HasNum: true, Num: d})
	amount.CostText(api.Cost{Has: true, HasNum: true, Num: d})
	amount.PriceText(api.Price{Has: true, HasNum: true, Num: d})
	amount.SameUnits(api.Units{Num: d}, api.Units{Num: d})
	if !slices.Equal(long[:5], behind) {
		t.Error("digits were changed")
	}
}

// R1: whatever is handed in, calls end without a panic.
func TestOddArguments(t *testing.T) {
	texts := []string{"", "{", "{{", "}", "}}", ",", "@", "@@", "+", "-", "(", ")", "5", "5.", "\xff", "USD", "2024-01-02", "2023-02-29", "a\"\n"}
	for kind := -1; kind < 12; kind++ {
		for _, s := range texts {
			for _, more := range texts {
				l := []api.Token{{Kind: api.TkSign, Text: "{"}, {Kind: kind, Text: s, Pos: api.Pos{Line: math.MinInt, Col: math.MaxInt}}, {Kind: api.TkSign, Text: more}, {Kind: kind, Text: more}}
				for at := -1; at < 6; at++ {
					amount.Amount(l, at)
					amount.Units(l, at)
					amount.Cost(l, at)
					amount.Price(l, at)
				}
				isCost(t, l, 0)
			}
		}
	}
	for _, d := range []api.Dec{{Scale: math.MinInt}, {Scale: math.MaxInt}, {Neg: true, Coef: api.Nat{0, math.MaxUint32, 0}, Scale: -3}} {
		amount.AmountText(api.Amount{Num: d, Cur: "\xff"})
		amount.CostText(api.Cost{Has: true, HasNum: true, Num: d, Date: day(math.MaxInt, math.MinInt, 0), Label: "\xff\x00"})
		amount.PriceText(api.Price{Has: true, HasNum: true, Num: d})
		amount.SameCost(api.Cost{Num: d}, api.Cost{Num: d})
	}
	long := words("{" + strings.Repeat("no$, ", 100_000) + "5 USD}")
	got, place, err := amount.Cost(long, 0)
	is(t, "Cost of many parts", got, place, err, cost(false, "5", "USD", api.Date{}, ""), len(long), api.OK, sameCost)
}
