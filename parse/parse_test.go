package parse_test

import (
	"fmt"
	"math"
	"math/rand"
	"reflect"
	"slices"
	"strings"
	"testing"
	"time"
	"unicode/utf8"

	"quittance/api"
	"quittance/body"
	"quittance/dectext"
	"quittance/head"
	"quittance/lex"
	"quittance/parse"
)

// number answers the decimal that is written as s.
func number(s string) api.Dec {
	d, err := dectext.Parse(s)
	if err != api.OK {
		panic(s)
	}
	return d
}

// at makes a place.
func at(line, col int) api.Pos { return api.Pos{Line: line, Col: col} }

// f makes a fault.
func f(line, col int, code api.Errno) api.Fault { return api.Fault{Pos: at(line, col), Code: code} }

// text answers lines, each with an end.
func text(lines ...string) string {
	return strings.Join(lines, "\n") + "\n"
}

// num answers d so that no digits are told one way alone.
func num(d api.Dec) api.Dec {
	d.Coef = append(api.Nat{}, d.Coef...)
	return d
}

// plain answers j so that lists that are nil and empty ones are alike.
func plain(j api.Journal) api.Journal {
	l := []api.Directive{}
	for _, d := range j.L {
		d.Amount.Num, d.Tol = num(d.Amount.Num), num(d.Tol)
		d.Curs, d.Tags, d.Links = append([]string{}, d.Curs...), append([]string{}, d.Tags...), append([]string{}, d.Links...)
		d.Meta = append([]api.Meta{}, d.Meta...)
		posts := []api.Posting{}
		for _, p := range d.Posts {
			p.Units.Num, p.Cost.Num, p.Price.Num = num(p.Units.Num), num(p.Cost.Num), num(p.Price.Num)
			p.Meta = append([]api.Meta{}, p.Meta...)
			posts = append(posts, p)
		}
		d.Posts = posts
		l = append(l, d)
	}
	return api.Journal{L: l, Faults: append([]api.Fault{}, j.Faults...)}
}

// has checks what Parse tells of s.
func has(t *testing.T, s string, want api.Journal) {
	t.Helper()
	got := parse.Parse(s)
	if !reflect.DeepEqual(plain(got), plain(want)) {
		t.Fatalf("Parse of %q: %v, want %v", s, got, want)
	}
}

// wrong checks that Parse tells these faults of s alone.
func wrong(t *testing.T, s string, want ...api.Fault) {
	t.Helper()
	has(t, s, api.Journal{Faults: want})
}

// P17.1: by line, then column, then code, each once
func TestSort(t *testing.T) {
	tests := []struct{ l, want []api.Fault }{
		{nil, nil}, {[]api.Fault{}, nil},
		{[]api.Fault{f(2, 3, api.ErrForm)}, []api.Fault{f(2, 3, api.ErrForm)}},
		{[]api.Fault{f(2, 1, 1), f(1, 9, 9)}, []api.Fault{f(1, 9, 9), f(2, 1, 1)}},
		{[]api.Fault{f(1, 2, 1), f(1, 1, 9)}, []api.Fault{f(1, 1, 9), f(1, 2, 1)}},
		{[]api.Fault{f(1, 1, 3), f(1, 1, 2)}, []api.Fault{f(1, 1, 2), f(1, 1, 3)}},
		{[]api.Fault{f(1, 1, 3), f(1, 1, 2), f(1, 1, 3), f(1, 1, 3)}, []api.Fault{f(1, 1, 2), f(1, 1, 3)}},
		{[]api.Fault{f(10, 1, 3), f(9, 1, 3), f(9, 10, 3), f(9, 9, 3)}, []api.Fault{f(9, 1, 3), f(9, 9, 3), f(9, 10, 3), f(10, 1, 3)}},
		{[]api.Fault{f(0, 0, 0), f(-1, 5, 2), f(-1, 5, -2), f(math.MaxInt, 0, 0), f(math.MinInt, math.MaxInt, 0), f(math.MinInt, math.MinInt, 0)}, []api.Fault{f(math.MinInt, math.MinInt, 0), f(math.MinInt, math.MaxInt, 0), f(-1, 5, -2), f(-1, 5, 2), f(0, 0, 0), f(math.MaxInt, 0, 0)}},
	}
	for _, c := range tests {
		got := parse.Sort(c.l)
		if !slices.Equal(got, c.want) {
			t.Errorf("Sort of %v: %v, want %v", c.l, got, c.want)
		}
		if !parse.Sorted(c.want) || parse.Sorted(c.l) != slices.Equal(c.l, c.want) {
			t.Errorf("Sorted of %v: %v, of %v: %v", c.want, parse.Sorted(c.want), c.l, parse.Sorted(c.l))
		}
	}
}

// P17.1: of all lists of up to four faults, and longer ones, what is answered goes up, and has the same faults
func TestSortAll(t *testing.T) {
	some := []api.Fault{f(1, 1, 2), f(1, 1, 3), f(1, 2, 2), f(2, 1, 2), f(2, 1, 1)}
	lists(len(some), 4, func(which []int) {
		l := []api.Fault{}
		for _, n := range which {
			l = append(l, some[n])
		}
		checkSort(t, l)
	})
	rnd := rand.New(rand.NewSource(17))
	for range 300 {
		l := []api.Fault{}
		for range rnd.Intn(60) {
			l = append(l, f(rnd.Intn(4), rnd.Intn(4), api.Errno(rnd.Intn(4))))
		}
		checkSort(t, l)
	}
}

// up tells whether a stands ahead of b.
func up(a, b api.Fault) bool {
	if a.Pos.Line != b.Pos.Line {
		return a.Pos.Line < b.Pos.Line
	}
	if a.Pos.Col != b.Pos.Col {
		return a.Pos.Col < b.Pos.Col
	}
	return a.Code < b.Code
}

// checkSort holds Sort and Sorted of l against what must hold of them.
func checkSort(t *testing.T, l []api.Fault) {
	t.Helper()
	before := slices.Clone(l)
	got := parse.Sort(l)
	goesUp := func(l []api.Fault) bool {
		for i := range l {
			for j := range i {
				if !up(l[j], l[i]) {
					return false
				}
			}
		}
		return true
	}
	for _, one := range l {
		if !slices.Contains(got, one) {
			t.Fatalf("Sort of %v: %v lets %v go", l, got, one)
		}
	}
	for _, one := range got {
		if !slices.Contains(l, one) {
			t.Fatalf("Sort of %v: %v has %v", l, got, one)
		}
	}
	if !goesUp(got) || !parse.Sorted(got) || parse.Sorted(l) != goesUp(l) || !slices.Equal(l, before) {
		t.Fatalf("Sort of %v: %v, Sorted: %v", before, got, parse.Sorted(l))
	}
}

// lists calls do with each list of at most most numbers below n.
func lists(n, most int, do func([]int)) {
	var longer func([]int)
	longer = func(l []int) {
		do(l)
		if len(l) == most {
			return
		}
		for i := range n {
			longer(append(l[:len(l):len(l)], i))
		}
	}
	longer(nil)
}

// P17.2: the place behind the last byte
func TestLast(t *testing.T) {
	tests := []struct {
		s    string
		want api.Pos
	}{
		{"", at(1, 1)}, {"a", at(1, 2)}, {"abc", at(1, 4)}, {"\n", at(2, 1)}, {"a\n", at(2, 1)}, {"a\nb", at(2, 2)}, {"a\r\n", at(2, 1)}, {"a\r", at(1, 3)}, {"\r", at(1, 2)}, {"\n\n\n", at(4, 1)}, {"a\n\n  b c", at(3, 6)}, {"\xff\xc3\xa9", at(1, 4)},
	}
	for _, c := range tests {
		if got := parse.Last(c.s); got != c.want {
			t.Errorf("Last of %q: %v, want %v", c.s, got, c.want)
		}
	}
}

// P17.3: directives of all kinds, with what stands below them, in order
func TestParse(t *testing.T) {
	s := text("; accounts", "option \"title\" \"mine\"", "2024-01-01 open Assets:Bank USD, EUR \"FIFO\"  ; the one", "  bank: \"here\"", "  iban: \"\"", "", "* Shares", "2024-01-01 commodity ACME", "\tname: \"Acme\"", "2024-01-02 price ACME 10.00 USD", "2024-01-02 pad Assets:Bank Equity:Open", "2024-01-03 balance Assets:Bank 10 ~ 0.5 USD", "  from: \"paper\"", "2024-01-03 note Assets:Bank \"called\"", "2024-01-05 ! \"Shop\" \"food\" #a ^b", "  file: \"a.pdf\"", "  Assets:Bank -5 USD", "    kind: \"card\"", "    kind: \"card\"", "", "  ; what is left", "  * Expenses:Food", "2023-01-04 close Assets:Bank")
	want := api.Journal{L: []api.Directive{
		{Kind: api.DoOption, Name: "title", Text: "mine", Pos: at(2, 1)},
		{Kind: api.DoOpen, Date: api.Date{Year: 2024, Month: 1, Day: 1}, Account: "Assets:Bank", Curs: []string{"USD", "EUR"}, Book: api.BookFifo, Meta: []api.Meta{{Key: "bank", Text: "here"}, {Key: "iban"}}, Pos: at(3, 1)},
		{Kind: api.DoCommodity, Date: api.Date{Year: 2024, Month: 1, Day: 1}, Curs: []string{"ACME"}, Meta: []api.Meta{{Key: "name", Text: "Acme"}}, Pos: at(8, 1)},
		{Kind: api.DoPrice, Date: api.Date{Year: 2024, Month: 1, Day: 2}, Curs: []string{"ACME"}, Amount: api.Amount{Num: number("10.00"), Cur: "USD"}, Pos: at(10, 1)},
		{Kind: api.DoPad, Date: api.Date{Year: 2024, Month: 1, Day: 2}, Account: "Assets:Bank", Other: "Equity:Open", Pos: at(11, 1)},
		{Kind: api.DoBalance, Date: api.Date{Year: 2024, Month: 1, Day: 3}, Account: "Assets:Bank", Amount: api.Amount{Num: number("10"), Cur: "USD"}, HasTol: true, Tol: number("0.5"), Meta: []api.Meta{{Key: "from", Text: "paper"}}, Pos: at(12, 1)},
		{Kind: api.DoNote, Date: api.Date{Year: 2024, Month: 1, Day: 3}, Account: "Assets:Bank", Text: "called", Pos: at(14, 1)},
		{Kind: api.DoTxn, Date: api.Date{Year: 2024, Month: 1, Day: 5}, Flag: "!", Payee: "Shop", Narration: "food", Tags: []string{"a"}, Links: []string{"b"}, Meta: []api.Meta{{Key: "file", Text: "a.pdf"}}, Pos: at(15, 1), Posts: []api.Posting{
			{Account: "Assets:Bank", Units: api.Units{HasNum: true, Num: number("-5"), Cur: "USD"}, Meta: []api.Meta{{Key: "kind", Text: "card"}, {Key: "kind", Text: "card"}}, Pos: at(17, 3)},
			{Flag: "*", Account: "Expenses:Food", Pos: at(22, 3)},
		}},
		{Kind: api.DoClose, Date: api.Date{Year: 2023, Month: 1, Day: 4}, Account: "Assets:Bank", Pos: at(23, 1)},
	}}
	has(t, s, want)
	has(t, strings.TrimSuffix(s, "\n"), want)
	has(t, strings.ReplaceAll(s, "\n", "\r\n"), want)
	for _, nothing := range []string{"", "\n", " ", "\t\n\r\n", "; a", "* a $ \"", "  ; a\n\n*\n"} {
		has(t, nothing, api.Journal{})
	}
}

// P17.3: bytes that are no text are the one fault
func TestUtf(t *testing.T) {
	wrong(t, "\xff", f(1, 1, api.ErrUtf))
	wrong(t, "a \xc3", f(1, 3, api.ErrUtf))
	wrong(t, "$\n  b\n; \xc3\xa9\xe9 \xff\npushtag #a\n", f(3, 5, api.ErrUtf))
	wrong(t, text("2024-01-01 note Assets:Bank \"\xc0\x80\""), f(1, 30, api.ErrUtf))
	wrong(t, "\xed\xa0\x80", f(1, 1, api.ErrUtf))
	wrong(t, "; a\n\x80", f(2, 1, api.ErrUtf))
	has(t, "; \xc3\xa9 \xf0\x9f\x98\x80\n* \xc3\xa9", api.Journal{})
	wrong(t, "\xc3\xa9", f(1, 1, api.ErrForm))
}

// P17.3: faults of first lines, at their word or behind the line
func TestFirstFaults(t *testing.T) {
	tests := []struct {
		line string
		col  int
		code api.Errno
	}{
		{"$", 1, api.ErrForm}, {"2024-01-01 open $", 17, api.ErrForm}, {"option \"a\" \"b", 12, api.ErrShort}, {"2024-01-01 note Assets:Bank \"\\x\"", 29, api.ErrForm}, {"a \r b", 3, api.ErrForm}, {"A:", 1, api.ErrForm},
		{"option", 7, api.ErrShort}, {"option  ", 9, api.ErrShort}, {"option \"a\" ; b", 15, api.ErrShort}, {"option \"a\" \"b\" c", 16, api.ErrForm}, {"2024-01-01", 11, api.ErrShort}, {"2024-01-01 open", 16, api.ErrShort}, {"2024-01-01 open\tUSD", 17, api.ErrForm}, {"2024-01-01 push", 12, api.ErrForm}, {"open Assets:Bank", 1, api.ErrForm}, {"Assets:Bank 5 USD", 1, api.ErrForm}, {"a: \"b\"", 1, api.ErrForm}, {"pushtag: \"b\"", 1, api.ErrForm}, {"poptag: \"b\"", 1, api.ErrForm}, {"#a", 1, api.ErrForm}, {"pushtags #a", 1, api.ErrForm}, {"! \"a\"", 1, api.ErrForm}, {"\"pushtag\" #a", 1, api.ErrForm},
		{"2024-01-01 balance Assets:Bank 1 / 0 USD", 34, api.ErrZero}, {"2024-01-01 balance Assets:Bank 1 ~ -1 USD", 37, api.ErrForm}, {"2024-01-01 price ACME " + strings.Repeat("(", 65), 87, api.ErrDeep}, {"2024-01-01 close Assets:Bank #a", 30, api.ErrForm},
		{"pushtag", 8, api.ErrShort}, {"pushtag ; #a", 13, api.ErrShort}, {"pushtag a", 9, api.ErrForm}, {"pushtag ^a", 9, api.ErrForm}, {"pushtag a b", 9, api.ErrForm}, {"pushtag #a b", 12, api.ErrForm}, {"pushtag #a #a", 12, api.ErrForm}, {"pushtag #a b c", 12, api.ErrForm}, {"pushtag #", 9, api.ErrForm}, {"pushtag #a $", 12, api.ErrForm},
		{"poptag", 7, api.ErrShort}, {"poptag\t", 8, api.ErrShort}, {"poptag \"a\"", 8, api.ErrForm}, {"poptag b c", 8, api.ErrForm}, {"poptag #a b", 11, api.ErrForm}, {"poptag #a", 8, api.ErrTag}, {"poptag   #a ; b", 10, api.ErrTag}, {"poptag #a \"", 11, api.ErrShort},
	}
	for _, c := range tests {
		wrong(t, c.line, f(1, c.col, c.code))
		wrong(t, "\n"+c.line+"\r\n\n", f(2, c.col, c.code))
		wrong(t, text("2024-01-01 open Assets:Bank", "  a: \"b\"", c.line, "; c"), f(3, c.col, c.code))
		wrong(t, text(c.line, "; a", c.line), f(1, c.col, c.code), f(3, c.col, c.code))
	}
}

// P17.3: lines below a first one that has a fault are let go, but of pushtags and poptags that are words
func TestBelowFaults(t *testing.T) {
	good, bad, dollar := "2024-01-01 *", "2024-01-01 txn \"a\" \"b\" \"c\"", "2024-01-01 * $"
	wrong(t, text(bad, "  $", "  a: 5", "", "  Assets:Bank 5"), f(1, 24, api.ErrForm))
	wrong(t, text(dollar, "  $", "  a: 5", "; b", "  Assets:Bank 5"), f(1, 14, api.ErrForm))
	wrong(t, text(dollar, "  $", good, "  $", "  Assets:Bank 5"), f(1, 14, api.ErrForm), f(4, 3, api.ErrForm), f(5, 16, api.ErrShort))
	wrong(t, text("pushtag #a $", "  $", "  a"), f(1, 12, api.ErrForm))
	wrong(t, text("poptag #a $", "  $", "  a"), f(1, 11, api.ErrForm))
	for _, first := range []string{"pushtag", "poptag", "pushtag a", "poptag #a", "poptag #a b", "pushtag #a b"} {
		l := parse.Parse(first).Faults
		if len(l) != 1 {
			t.Fatalf("Parse of %q: %v", first, l)
		}
		wrong(t, text(first, "", "  a: \"b\"", " a $", "\tAssets:Bank", "* c", " \t  5 USD ; d"), l[0], f(3, 3, api.ErrForm), f(4, 4, api.ErrForm), f(5, 2, api.ErrForm), f(7, 5, api.ErrForm))
	}
	wrong(t, text("pushtag #a", "  a: \"b\"", "poptag #a", "  Assets:Bank", "  \"b"), f(2, 3, api.ErrForm), f(4, 3, api.ErrForm), f(5, 3, api.ErrShort))
}

// P17.3: lines below, of nothing, of options, of others, of transactions
func TestBelow(t *testing.T) {
	wrong(t, "  Assets:Bank", f(1, 3, api.ErrForm))
	wrong(t, text(" a: \"b\"", "", "\t\t5", " $", "  ; c", " d $"), f(1, 2, api.ErrForm), f(3, 3, api.ErrForm), f(4, 2, api.ErrForm), f(6, 4, api.ErrForm))
	wrong(t, text("option \"a\" \"b\"", "  a: \"b\"", "  a", " \"b"), f(2, 3, api.ErrForm), f(3, 3, api.ErrForm), f(4, 2, api.ErrShort))
	for _, first := range []string{"2024-01-01 open Assets:Bank", "2024-01-01 close Assets:Bank", "2024-01-01 commodity ACME", "2024-01-01 price ACME 5 USD", "2024-01-01 pad Assets:Bank Equity:Open", "2024-01-01 balance Assets:Bank 5 USD", "2024-01-01 note Assets:Bank \"a\""} {
		wrong(t, text(first, "  a: \"b\"", "  Assets:Bank 5 USD", "  a: b", "  a:", " ! 5", "  b: \"c\" d"), f(3, 3, api.ErrForm), f(4, 6, api.ErrForm), f(5, 5, api.ErrShort), f(6, 2, api.ErrForm), f(7, 10, api.ErrForm))
		j := parse.Parse(text("option \"a\" \"b\"", first, "", "  a: \"b\"", "* c", "; d", "\ta: \"c\" ; e", "2024-01-01 *"))
		if len(j.L) != 3 || !slices.Equal(j.L[1].Meta, []api.Meta{{Key: "a", Text: "b"}, {Key: "a", Text: "c"}}) || len(j.L[0].Meta)+len(j.L[2].Meta) > 0 {
			t.Errorf("below %q: %v", first, j)
		}
	}
	wrong(t, text("2024-01-01 txn", "  Assets:Bank 5 ; a", "  5 USD", "  Assets:Bank 5 / 0 USD", " ! Assets:Bank 5 USD {", "  a: 5", "  pushtag #a", "  2024-01-01 *", "  "+strings.Repeat("(", 70), "  Assets:Bank "+strings.Repeat("(", 70)), f(2, 20, api.ErrShort), f(3, 3, api.ErrForm), f(4, 17, api.ErrZero), f(5, 23, api.ErrShort), f(6, 6, api.ErrForm), f(7, 3, api.ErrForm), f(8, 3, api.ErrForm), f(9, 3, api.ErrForm), f(10, 79, api.ErrDeep))
}

// tagsOf answers the tags of all directives of s, with a stroke between those of two.
func tagsOf(t *testing.T, s string) string {
	t.Helper()
	j := parse.Parse(s)
	if len(j.Faults) > 0 {
		t.Fatalf("Parse of %q: %v", s, j.Faults)
	}
	var all []string
	for _, d := range j.L {
		all = append(all, strings.Join(d.Tags, ","))
	}
	return strings.Join(all, "/")
}

// P17.3: which tags transactions have
func TestTags(t *testing.T) {
	tests := []struct {
		lines []string
		want  string
	}{
		{[]string{"+a", "x", "-a", "x"}, "a/"},
		{[]string{"x", "+a", "x", "x", "-a"}, "/a/a"},
		{[]string{"+a", "x #b", "-a"}, "b,a"},
		{[]string{"+a", "+b", "x #c #a", "-a", "x #c #a", "-b"}, "c,a,b/c,a,b"},
		{[]string{"+a", "x #a", "-a"}, "a"},
		{[]string{"+b", "+a", "x", "-b", "x", "+b", "x", "-a", "x", "-b", "x"}, "b,a/a/a,b/b/"},
		{[]string{"+a", "+a", "x", "-a", "x", "-a", "x"}, "a/a/"},
		{[]string{"+a", "+b", "+a", "x", "-a", "x", "-a", "x", "-b"}, "a,b/a,b/b"},
		{[]string{"+a", "+b", "-a", "+a", "x", "-a", "-b"}, "b,a"},
		{[]string{"+a", "+b", "+c", "+d", "-b", "-a", "x", "+b", "x", "-d", "x", "-c", "-b", "x"}, "c,d/c,d,b/c,b/"},
		{[]string{"+a", "2024-01-01 open Assets:Bank", "x", "-a"}, "/a"},
		{[]string{"+a", "option \"a\" \"b\"", "2024-01-01 note Assets:Bank \"a\"", "2024-01-01 ! ^a #b", "-a"}, "//b,a"},
		{[]string{"  ; a", "+a/B.c", "", "x", "", "-a/B.c"}, "a/B.c"},
	}
	for _, c := range tests {
		if got := tagsOf(t, journal(c.lines)); got != c.want {
			t.Errorf("tags of %v: %s, want %s", c.lines, got, c.want)
		}
	}
	j := parse.Parse(journal([]string{"+a", "x", "  Assets:Bank", "  a: \"b\"", "x", "-a"}))
	if len(j.Faults) > 0 || len(j.L[0].Posts) != 1 || !slices.Equal(j.L[0].Tags, []string{"a"}) || !slices.Equal(j.L[1].Tags, []string{"a"}) {
		t.Errorf("tags ahead of postings: %v", j)
	}
}

// journal answers lines, where + stands for a pushtag, - for a poptag, and x for a transaction.
func journal(lines []string) string {
	var all []string
	for _, line := range lines {
		switch {
		case strings.HasPrefix(line, "+"):
			line = "pushtag #" + line[1:]
		case strings.HasPrefix(line, "-"):
			line = "poptag #" + line[1:]
		case strings.HasPrefix(line, "x"):
			line = "2024-01-01 *" + line[1:]
		}
		all = append(all, line)
	}
	return text(all...)
}

// P17.3: tags that are not on, and those that stay on
func TestTagFaults(t *testing.T) {
	tests := []struct {
		lines []string
		want  []api.Fault
	}{
		{[]string{"+a"}, []api.Fault{f(1, 1, api.ErrTag)}},
		{[]string{"", "+a", "x", "+b"}, []api.Fault{f(2, 1, api.ErrTag), f(4, 1, api.ErrTag)}},
		{[]string{"+a", "+a", "-a"}, []api.Fault{f(1, 1, api.ErrTag)}},
		{[]string{"+a", "+a"}, []api.Fault{f(1, 1, api.ErrTag), f(2, 1, api.ErrTag)}},
		{[]string{"+a", "+b", "+a", "-a"}, []api.Fault{f(1, 1, api.ErrTag), f(2, 1, api.ErrTag)}},
		{[]string{"+a", "+b", "+a", "+a", "-a", "-b"}, []api.Fault{f(1, 1, api.ErrTag), f(3, 1, api.ErrTag)}},
		{[]string{"+b", "+a", "+b", "-b", "-b"}, []api.Fault{f(2, 1, api.ErrTag)}},
		{[]string{"-a", "+a", "-a", "-a"}, []api.Fault{f(1, 8, api.ErrTag), f(4, 8, api.ErrTag)}},
		{[]string{"+a", "-b", "-A"}, []api.Fault{f(1, 1, api.ErrTag), f(2, 8, api.ErrTag), f(3, 8, api.ErrTag)}},
		{[]string{"+a b", "-a"}, []api.Fault{f(1, 12, api.ErrForm), f(2, 8, api.ErrTag)}},
		{[]string{"+a", "-a b"}, []api.Fault{f(1, 1, api.ErrTag), f(2, 11, api.ErrForm)}},
		{[]string{"+a", "-a $", "x $"}, []api.Fault{f(1, 1, api.ErrTag), f(2, 11, api.ErrForm), f(3, 14, api.ErrForm)}},
		{[]string{"+a", "  b", "x", "  $"}, []api.Fault{f(1, 1, api.ErrTag), f(2, 3, api.ErrForm), f(4, 3, api.ErrForm)}},
		{[]string{"x a", "  b", "+a", "+b", "-a", "2024"}, []api.Fault{f(1, 14, api.ErrForm), f(4, 1, api.ErrTag), f(6, 1, api.ErrForm)}},
	}
	for _, c := range tests {
		wrong(t, journal(c.lines), c.want...)
	}
	wrong(t, text("  pushtag #a"), f(1, 3, api.ErrForm))
}

// looked is a line as the model looks at it: what it says, or what is wrong with that.
type looked struct {
	api.Line
	words []api.Token
	fault api.Fault
}

// blank tells whether a line says nothing.
func (l looked) blank() bool {
	trimmed := strings.TrimLeft(l.Text, " \t")
	return trimmed == "" || trimmed[0] == ';' || l.Text[0] == '*'
}

// isFirst tells whether a line that is not blank is a first one.
func (l looked) isFirst() bool {
	return !l.blank() && l.Text[0] != ' ' && l.Text[0] != '\t'
}

// isTag tells whether a line has words, of which the first one is this.
func (l looked) isTag(word string) bool {
	return l.fault.Code == api.OK && l.words[0].Kind == api.TkWord && l.words[0].Text == word
}

// wrong answers the fault of that code at the word of that number, or behind the line.
func (l looked) wrong(n int, code api.Errno) api.Fault {
	if n < len(l.words) {
		return api.Fault{Pos: l.words[n].Pos, Code: code}
	}
	return f(l.No, len(l.Text)+1, code)
}

// look answers the lines of s.
func look(s string) []looked {
	var all []looked
	for n, line := range strings.Split(s, "\n") {
		l := looked{Line: api.Line{No: n + 1, Text: strings.TrimSuffix(line, "\r")}}
		if !l.blank() {
			l.words, l.fault = lex.Words(l.Line)
		}
		all = append(all, l)
	}
	return all
}

// model answers what Parse is to tell of s: each line for itself looks at those above it.
func model(s string) api.Journal {
	line := 1
	for n, sign := range s {
		if sign == utf8.RuneError && !strings.HasPrefix(s[n:], "\uFFFD") {
			return api.Journal{Faults: []api.Fault{f(line, n-strings.LastIndexByte(s[:n], '\n'), api.ErrUtf)}}
		}
		if sign == '\n' {
			line++
		}
	}
	j := api.Journal{}
	lines := look(s)
	for n, l := range lines {
		switch {
		case l.blank():
		case l.isFirst():
			modelFirst(&j, lines[:n], l)
		default:
			modelBelow(&j, lines[:n], l)
		}
	}
	for _, l := range on(lines) {
		j.Faults = append(j.Faults, f(l.No, 1, api.ErrTag))
	}
	if len(j.Faults) > 0 {
		j.L = nil
		slices.SortFunc(j.Faults, func(a, b api.Fault) int {
			if up(a, b) {
				return -1
			}
			return 1
		})
	}
	return j
}

// on answers the pushtags among lines whose tags are on behind them.
func on(lines []looked) []looked {
	var all []looked
	for _, l := range lines {
		if !l.isFirst() || !l.isTag("pushtag") && !l.isTag("poptag") || len(l.words) != 2 || l.words[1].Kind != api.TkTag {
			continue
		}
		if l.isTag("pushtag") {
			all = append(all, l)
			continue
		}
		for n := len(all) - 1; n >= 0; n-- {
			if all[n].words[1].Text == l.words[1].Text {
				all = slices.Delete(all, n, n+1)
				break
			}
		}
	}
	return all
}

// modelFirst reads the first line l behind those above it.
func modelFirst(j *api.Journal, above []looked, l looked) {
	switch {
	case l.fault.Code != api.OK:
		j.Faults = append(j.Faults, l.fault)
	case l.isTag("pushtag") || l.isTag("poptag"):
		switch {
		case len(l.words) == 1:
			j.Faults = append(j.Faults, l.wrong(1, api.ErrShort))
		case l.words[1].Kind != api.TkTag:
			j.Faults = append(j.Faults, l.wrong(1, api.ErrForm))
		case len(l.words) > 2:
			j.Faults = append(j.Faults, l.wrong(2, api.ErrForm))
		case l.isTag("poptag") && !slices.ContainsFunc(on(above), func(p looked) bool { return p.words[1].Text == l.words[1].Text }):
			j.Faults = append(j.Faults, l.wrong(1, api.ErrTag))
		}
	default:
		d, at, err := head.Head(l.words)
		if err != api.OK {
			j.Faults = append(j.Faults, l.wrong(at, err))
			return
		}
		for _, p := range on(above) {
			if d.Kind == api.DoTxn && !slices.Contains(d.Tags, p.words[1].Text) {
				d.Tags = append(d.Tags, p.words[1].Text)
			}
		}
		j.L = append(j.L, d)
	}
}

// modelBelow reads the line l below those above it.
func modelBelow(j *api.Journal, above []looked, l looked) {
	var d api.Directive
	for n := len(above) - 1; n >= 0; n-- {
		if a := above[n]; a.isFirst() {
			if a.fault.Code != api.OK {
				return
			}
			var err api.Errno
			d, _, err = head.Head(a.words)
			if err != api.OK && !a.isTag("pushtag") && !a.isTag("poptag") {
				return
			}
			break
		}
	}
	switch {
	case l.fault.Code != api.OK:
		j.Faults = append(j.Faults, l.fault)
	case d.Kind == 0 || d.Kind == api.DoOption || d.Kind != api.DoTxn && l.words[0].Kind != api.TkKey:
		j.Faults = append(j.Faults, l.wrong(0, api.ErrForm))
	case l.words[0].Kind == api.TkKey:
		m, at, err := body.Meta(l.words)
		if err != api.OK {
			j.Faults = append(j.Faults, l.wrong(at, err))
			return
		}
		last := &j.L[len(j.L)-1]
		if n := len(last.Posts); n > 0 {
			last.Posts[n-1].Meta = append(last.Posts[n-1].Meta, m)
		} else {
			last.Meta = append(last.Meta, m)
		}
	default:
		p, at, err := body.Posting(l.words)
		if err != api.OK {
			j.Faults = append(j.Faults, l.wrong(at, err))
			return
		}
		j.L[len(j.L)-1].Posts = append(j.L[len(j.L)-1].Posts, p)
	}
}

// someLines has lines of all kinds, those that are wrong behind those that are right.
func someLines() (right, all []string) {
	right = []string{"", "* a", "2024-01-01 * #a #c", "  Assets:Bank 5 USD", "\ta: \"b\"", "pushtag #a", "poptag #a", "2024-01-01 close Assets:Bank", "option \"a\" \"b\"", "  ; c", "2024-01-02 txn", "pushtag #b", "poptag #b"}
	all = append(right[:len(right):len(right)], "2024-01-01 open", "2024-01-01 * $", "  Assets:Bank 5", " $", "\ta: b", "pushtag #a b", "poptag", "pushtag #b $", "  ! Assets:Bank", "\xff", " \r ", "; d\r", "$", "  a: \"b\" ; e", "2024-01-01 note Assets:Bank \"\xc3\xa9\"")
	return right, all
}

// P17.3, P17.4: all short texts of such lines are told as each line for itself tells
func TestAllShort(t *testing.T) {
	right, all := someLines()
	check := func(lines []string, most int) {
		lists(len(lines), most, func(which []int) {
			var l []string
			for _, n := range which {
				l = append(l, lines[n])
			}
			checkText(t, strings.Join(l, "\n"))
		})
	}
	check(right, 4)
	check(all, 3)
}

// P17.3, P17.4: so are longer ones
func TestLonger(t *testing.T) {
	right, all := someLines()
	rnd := rand.New(rand.NewSource(17))
	fine := 0
	for n := range 20_000 {
		lines := right
		if n%4 == 0 {
			lines = all
		}
		var l []string
		for range rnd.Intn(14) {
			l = append(l, lines[rnd.Intn(len(lines))])
		}
		s := strings.Join(l, "\n")
		if n%3 == 0 {
			s = settle(s)
		}
		checkText(t, s)
		if len(parse.Parse(s).L) > 2 {
			fine++
		}
	}
	if fine < 500 {
		t.Errorf("%d texts with directives alone", fine)
	}
}

// settle answers s, its faulty lines let go.
func settle(s string) string {
	lines := strings.Split(s, "\n")
	for {
		faults := parse.Parse(strings.Join(lines, "\n")).Faults
		if len(faults) == 0 {
			return strings.Join(lines, "\n")
		}
		lines = slices.Delete(lines, faults[0].Pos.Line-1, faults[0].Pos.Line)
	}
}

// checkText holds what Parse tells of s against the model, and against what must hold of it.
func checkText(t *testing.T, s string) {
	t.Helper()
	has(t, s, model(s))
	j := parse.Parse(s)
	if len(j.L) > 0 && len(j.Faults) > 0 || !parse.Sorted(j.Faults) {
		t.Fatalf("Parse of %q: %v", s, j)
	}
	last := parse.Last(s)
	for _, one := range j.Faults {
		if one.Code == api.OK || up(api.Fault{Pos: last}, api.Fault{Pos: one.Pos}) {
			t.Fatalf("Parse of %q: %v behind %v", s, one, last)
		}
	}
}

// P17.3: what is told is read again from its lines
func TestReadAgain(t *testing.T) {
	right, _ := someLines()
	rnd := rand.New(rand.NewSource(18))
	for range 2000 {
		var l []string
		for range rnd.Intn(20) {
			l = append(l, right[rnd.Intn(len(right))])
		}
		first := parse.Parse(settle(strings.Join(l, "\n")))
		var all []string
		for _, d := range first.L {
			all = append(all, head.Text(d))
			for _, m := range d.Meta {
				all = append(all, " "+body.MetaText(m))
			}
			for _, p := range d.Posts {
				all = append(all, " "+body.PostingText(p))
				for _, m := range p.Meta {
					all = append(all, " "+body.MetaText(m))
				}
			}
		}
		again := parse.Parse(text(all...))
		if len(again.L) != len(first.L) || len(again.Faults) > 0 {
			t.Fatalf("Parse of %q: %v, want %v", all, again, first)
		}
		for n, d := range again.L {
			samePosts := slices.EqualFunc(d.Posts, first.L[n].Posts, body.Same)
			if !head.Same(d, first.L[n]) || !samePosts || !body.SameMeta(d.Meta, first.L[n].Meta) {
				t.Fatalf("Parse of %q: %v, want %v", all, d, first.L[n])
			}
		}
	}
}

// R3: what is handed in is not changed, nor what lies behind its end; answers share no memory
func TestMemory(t *testing.T) {
	room := []api.Fault{f(2, 1, 3), f(1, 1, 3), f(2, 1, 3), f(9, 9, 9), f(8, 8, 8)}
	before := slices.Clone(room)
	got := parse.Sort(room[:3])
	for n := range got[:cap(got)] {
		got[:cap(got)][n] = f(7, 7, 7)
	}
	parse.Sorted(room[:3])
	if !slices.Equal(room, before) {
		t.Errorf("Sort changed %v to %v", before, room)
	}
	sorted := []api.Fault{f(1, 1, 3), f(2, 1, 3)}
	parse.Sort(sorted)[0] = f(7, 7, 7)
	if sorted[0] != f(1, 1, 3) {
		t.Errorf("Sort's answer lies in what was handed in")
	}
	s := journal([]string{"+a", "+b", "x #c #d", "  a: \"b\"", "  Assets:Bank 5 USD", "  a: \"b\"", "  Assets:Bank 5 USD", "  a: \"b\"", "  a: \"b\"", "x", "  a: \"b\"", "x #c #d", "-a", "-b"})
	j, other := parse.Parse(s), parse.Parse(s)
	for n := range j.L {
		d := &j.L[n]
		for i := range d.Tags[:cap(d.Tags)] {
			d.Tags[:cap(d.Tags)][i] = "z"
		}
		if !reflect.DeepEqual(j.L[n+1:], other.L[n+1:]) {
			t.Fatalf("tags of %d are those of one behind it", n)
		}
		scribble(d.Meta)
		for i := range d.Posts {
			scribble(d.Posts[i].Meta)
			if !reflect.DeepEqual(d.Posts[i+1:], other.L[n].Posts[i+1:]) {
				t.Fatalf("posting %d of %d shares what is said of it", i, n)
			}
		}
		if !reflect.DeepEqual(j.L[n+1:], other.L[n+1:]) {
			t.Fatalf("%d shares what is said of it", n)
		}
	}
	if !reflect.DeepEqual(plain(other), plain(parse.Parse(s))) {
		t.Errorf("answers share memory")
	}
}

// scribble changes all of l, and what lies behind its end.
func scribble(l []api.Meta) {
	for n := range l[:cap(l)] {
		l[:cap(l)][n] = api.Meta{Key: "z"}
	}
}

// R1, P17.4: any bytes come to directives or faults
func TestAnyBytes(t *testing.T) {
	rnd := rand.New(rand.NewSource(19))
	pieces := []string{"2024-01-01 ", "* ", "\n", "\n", "\n  ", "\r\n", "pushtag ", "poptag ", "#a ", "\"b\" ", "\"", "Assets:Bank ", "5 ", "USD ", "k: ", "open ", ";", "(", "{", "}", "$", "\\", "\t", "option ", "\xc3\xa9"}
	for n := range 20_000 {
		var s strings.Builder
		for range rnd.Intn(20) {
			s.WriteString(pieces[rnd.Intn(len(pieces))])
		}
		if n%10 == 0 {
			s.WriteByte(byte(rnd.Intn(256)))
		}
		checkText(t, s.String())
	}
}

// long journals are read in time that goes with their length
func TestLong(t *testing.T) {
	const many = 100_000
	var window, on, deep, below strings.Builder
	for n := range 3 * many {
		// Each tag is taken off by the poptag that follows the next pushtag, so that they are never all off.
		fmt.Fprintf(&window, "pushtag #a%d\n2024-01-01 *\n", n)
		if n > 0 {
			fmt.Fprintf(&window, "poptag #a%d\n", n-1)
		}
	}
	fmt.Fprintf(&window, "poptag #a%d\n", 3*many-1)
	for n := range many {
		on.WriteString("pushtag #a\n2024-01-01 *\n")
		fmt.Fprintf(&deep, "pushtag #a%d\n", n)
		below.WriteString("  Assets:Bank 5 USD\n  a: \"b\"\n")
	}
	for range many {
		on.WriteString("poptag #a\n")
	}
	for n := range many {
		fmt.Fprintf(&deep, "poptag #a%d\n", n)
	}
	start := time.Now()
	for _, c := range []struct {
		s          string
		directives int
		faults     int
	}{
		{window.String(), 3 * many, 0}, {on.String(), many, 0}, {deep.String(), 0, 0},
		{"2024-01-01 *\n" + below.String(), 1, 0}, {below.String(), 0, 2 * many}, {strings.Repeat("pushtag #a\n", many), 0, many}, {strings.Repeat("\n", 10*many), 0, 0},
	} {
		j := parse.Parse(c.s)
		if len(j.L) != c.directives || len(j.Faults) != c.faults {
			t.Errorf("Parse of %.20q: %d directives, %d faults, want %d, %d", c.s, len(j.L), len(j.Faults), c.directives, c.faults)
		}
		for n, d := range j.L {
			if d.Kind == api.DoTxn && len(d.Tags) > 2 {
				t.Fatalf("Parse of %.20q: %d has %v", c.s, n, d.Tags)
			}
		}
	}
	if took := time.Since(start); took > 30*time.Second {
		t.Errorf("took %v", took)
	}
}
