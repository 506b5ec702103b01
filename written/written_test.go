package written_test

import (
	"fmt"
	"math"
	"math/rand"
	"reflect"
	"regexp"
	"slices"
	"strings"
	"testing"
	"time"

	"quittance/api"
	"quittance/body"
	"quittance/dectext"
	"quittance/head"
	"quittance/parse"
	"quittance/written"
)

// number answers the decimal that is written as s.
func number(s string) api.Dec {
	d, err := dectext.Parse(s)
	if err != api.OK {
		panic(s)
	}
	return d
}

// of makes units with a number.
func of(num, cur string) api.Units { return api.Units{HasNum: true, Num: number(num), Cur: cur} }

// post makes a posting of that many of a currency.
func post(account, num, cur string) api.Posting {
	return api.Posting{Account: account, Units: of(num, cur)}
}

// posts makes a transaction of postings.
func posts(l ...api.Posting) api.Directive {
	return api.Directive{Kind: api.DoTxn, Date: first, Flag: "*", Posts: l}
}

// first is the day of all examples.
var first = api.Date{Year: 2024, Month: 1, Day: 2}

// journal makes the directives that lines tell.
func journal(lines ...string) []api.Directive {
	j := parse.Parse(strings.Join(lines, "\n"))
	if len(j.Faults) > 0 {
		panic(fmt.Sprint(lines, j.Faults))
	}
	return j.L
}

// example is a directive, and its lines.
type example struct {
	d    api.Directive
	text string
}

// examples answers directives of all kinds, with what stands below them.
func examples() []example {
	ten := api.Cost{Has: true, HasNum: true, Num: number("10.00"), Cur: "USD", Date: first, Label: "a"}
	two := []api.Meta{{Key: "file", Text: "a \"b\"\n"}, {Key: "x"}}
	buy := posts(
		api.Posting{Flag: "!", Account: "Assets:Stock", Units: of("-5", "ACME"), Cost: ten, Price: api.Price{Has: true, HasNum: true, Num: number("12.5"), Cur: "USD"}, Meta: two},
		api.Posting{Account: "Assets:Bank", Units: api.Units{Cur: "USD"}},
		api.Posting{Account: "Income:Gains", Meta: two[:1]})
	buy.Payee, buy.Narration, buy.Tags, buy.Links, buy.Meta = "me", "sold", []string{"t"}, []string{"l", "m"}, two
	return []example{
		{api.Directive{Kind: api.DoClose, Date: first, Account: "Assets:Bank"}, "2024-01-02 close Assets:Bank\n"},
		{api.Directive{Kind: api.DoOption, Name: "title", Text: "mine"}, "option \"title\" \"mine\"\n"},
		{api.Directive{Kind: api.DoOpen, Date: first, Account: "Assets:Bank", Curs: []string{"USD", "EUR"}, Book: api.BookFifo, Meta: two}, "2024-01-02 open Assets:Bank USD, EUR \"FIFO\"\n  file: \"a \\\"b\\\"\\n\"\n  x: \"\"\n"},
		{api.Directive{Kind: api.DoCommodity, Date: first, Curs: []string{"USD"}, Meta: two[1:]}, "2024-01-02 commodity USD\n  x: \"\"\n"},
		{api.Directive{Kind: api.DoPrice, Date: first, Curs: []string{"ACME"}, Amount: api.Amount{Num: number("10.50"), Cur: "USD"}}, "2024-01-02 price ACME 10.50 USD\n"},
		{api.Directive{Kind: api.DoPad, Date: first, Account: "Assets:Bank", Other: "Equity:Open"}, "2024-01-02 pad Assets:Bank Equity:Open\n"},
		{api.Directive{Kind: api.DoBalance, Date: first, Account: "Assets:Bank", Amount: api.Amount{Num: number("10.00"), Cur: "USD"}, HasTol: true, Tol: number("0.01")}, "2024-01-02 balance Assets:Bank 10.00 ~ 0.01 USD\n"},
		{api.Directive{Kind: api.DoNote, Date: first, Account: "Assets:Bank", Text: "called"}, "2024-01-02 note Assets:Bank \"called\"\n"},
		{api.Directive{Kind: api.DoTxn, Date: first, Flag: "!"}, "2024-01-02 ! \"\"\n"},
		{buy, "2024-01-02 * \"me\" \"sold\" #t ^l ^m\n  file: \"a \\\"b\\\"\\n\"\n  x: \"\"\n  ! Assets:Stock -5 ACME {10.00 USD, 2024-01-02, \"a\"} @ 12.5 USD\n    file: \"a \\\"b\\\"\\n\"\n    x: \"\"\n  Assets:Bank USD\n  Income:Gains\n    file: \"a \\\"b\\\"\\n\"\n"},
	}
}

// P18.1: a directive's lines
func TestOne(t *testing.T) {
	odd := []example{
		{api.Directive{}, "\n"},
		{api.Directive{Kind: 77, Date: first, Account: "Assets:Bank", Meta: []api.Meta{{Key: "a", Text: "b"}}, Posts: []api.Posting{{}}}, "\n  a: \"b\"\n  \n"},
		{api.Directive{Kind: api.DoClose, Date: first, Account: "Assets:Bank", Posts: []api.Posting{post("Assets:Bank", "5", "USD")}}, "2024-01-02 close Assets:Bank\n  Assets:Bank 5 USD\n"},
		{api.Directive{Kind: api.DoOption, Meta: []api.Meta{{}}, Posts: []api.Posting{{Flag: "!", Meta: []api.Meta{{}}}}}, "option \"\" \"\"\n  : \"\"\n  ! \n    : \"\"\n"},
	}
	for _, c := range append(examples(), odd...) {
		if got := written.One(c.d); got != c.text {
			t.Errorf("One of %v: %q, want %q", c.d, got, c.text)
		}
	}
}

// P18.2: all lines of all directives
func TestPrint(t *testing.T) {
	var l []api.Directive
	want := ""
	for _, c := range examples() {
		if got := written.Print(l); got != want {
			t.Errorf("Print of %d directives: %q, want %q", len(l), got, want)
		}
		l = append(l, c.d)
		want += c.text
	}
	if got := written.Print(l); got != want {
		t.Errorf("Print of all: %q, want %q", got, want)
	}
	if got := written.Print([]api.Directive{}) + written.Print(nil); got != "" {
		t.Errorf("Print of nothing: %q", got)
	}
	if got := written.Print(make([]api.Directive, 3)); got != "\n\n\n" {
		t.Errorf("Print of directives of no kind: %q", got)
	}
}

// copied answers a directive with lists of its own.
func copied(d api.Directive) api.Directive {
	own := func(n *api.Dec) { n.Coef = slices.Clone(n.Coef) }
	d.Curs, d.Tags, d.Links, d.Meta, d.Posts = slices.Clone(d.Curs), slices.Clone(d.Tags), slices.Clone(d.Links), slices.Clone(d.Meta), slices.Clone(d.Posts)
	own(&d.Amount.Num)
	own(&d.Tol)
	for n := range d.Posts {
		p := &d.Posts[n]
		p.Meta = slices.Clone(p.Meta)
		own(&p.Units.Num)
		own(&p.Cost.Num)
		own(&p.Price.Num)
	}
	return d
}

// parts calls do with each value within v that has no parts of its own, and with each list.
func parts(v reflect.Value, do func(reflect.Value)) {
	switch v.Kind() {
	case reflect.Struct:
		for n := range v.NumField() {
			if v.Type().Field(n).Name != "Pos" {
				parts(v.Field(n), do)
			}
		}
	case reflect.Slice:
		for n := range v.Len() {
			parts(v.Index(n), do)
		}
		do(v)
	default:
		do(v)
	}
}

// changed changes v into another value.
func changed(v reflect.Value) {
	switch v.Kind() {
	case reflect.Bool:
		v.SetBool(!v.Bool())
	case reflect.Int:
		v.SetInt(v.Int() + 1)
	case reflect.Uint32:
		v.SetUint(v.Uint() + 1)
	case reflect.String:
		v.SetString(v.String() + "x")
	case reflect.Slice:
		one := reflect.New(v.Type().Elem()).Elem()
		if one.Kind() == reflect.Uint32 {
			one.SetUint(1)
		}
		v.Set(reflect.Append(v, one))
	default:
		panic(v.Kind())
	}
}

// others answers d with one thing changed, each in turn.
func others(d api.Directive) []api.Directive {
	count := 0
	parts(reflect.ValueOf(&d).Elem(), func(reflect.Value) { count++ })
	all := make([]api.Directive, count)
	for n := range all {
		all[n] = copied(d)
		at := 0
		parts(reflect.ValueOf(&all[n]).Elem(), func(v reflect.Value) {
			if at == n {
				changed(v)
			}
			at++
		})
	}
	return all
}

// full answers a directive that has all.
func full() api.Directive {
	said := []api.Meta{{Key: "a", Text: "b"}, {Key: "c", Text: "d"}}
	p := api.Posting{Flag: "*", Account: "A", Units: of("5.0", "B"), Cost: api.Cost{Has: true, Total: true, HasNum: true, Num: number("6.0"), Cur: "C", Date: first, Label: "D"}, Price: api.Price{Has: true, Total: true, HasNum: true, Num: number("7.0"), Cur: "E"}, Meta: said}
	other := p
	other.Account = "O"
	return api.Directive{Kind: api.DoTxn, Date: first, Account: "A", Other: "B", Curs: []string{"C", "D"}, Book: 1, Amount: api.Amount{Num: number("5.0"), Cur: "E"}, HasTol: true, Tol: number("1.0"), Flag: "F", Payee: "G", Narration: "H", Tags: []string{"I", "J"}, Links: []string{"K", "L"}, Meta: said, Posts: []api.Posting{p, other}, Name: "M", Text: "N"}
}

// P18.3: all but places is looked at
func TestSame(t *testing.T) {
	all := append(examples(), example{d: full()}, example{d: api.Directive{}})
	told := 0
	for i, c := range all {
		moved := copied(c.d)
		moved.Pos = api.Pos{Line: 3, Col: 9}
		for n := range moved.Posts {
			moved.Posts[n].Pos = api.Pos{Line: 4 + n, Col: 3}
		}
		if !written.Same(c.d, moved) || !written.Same(moved, c.d) || !written.Same(c.d, c.d) {
			t.Errorf("Same tells %v from itself", c.d)
		}
		for _, other := range others(c.d) {
			told++
			if written.Same(c.d, other) || written.Same(other, c.d) || !written.Same(other, other) {
				t.Errorf("Same does not tell %v from %v", c.d, other)
			}
		}
		for j, b := range all {
			if written.Same(c.d, b.d) != (i == j) {
				t.Errorf("Same of %v and %v: %v", c.d, b.d, i != j)
			}
		}
	}
	if told < 200 {
		t.Errorf("%d other directives", told)
	}
}

// P18.3: the order of what stands below counts, and how numbers are written
func TestSameLists(t *testing.T) {
	one := full()
	for _, change := range []func(d *api.Directive){
		func(d *api.Directive) { slices.Reverse(d.Meta) },
		func(d *api.Directive) { slices.Reverse(d.Posts) },
		func(d *api.Directive) { slices.Reverse(d.Posts[1].Meta) },
		func(d *api.Directive) { slices.Reverse(d.Tags) },
		func(d *api.Directive) { d.Meta = d.Meta[1:] },
		func(d *api.Directive) { d.Meta = d.Meta[:1] },
		func(d *api.Directive) { d.Posts = d.Posts[1:] },
		func(d *api.Directive) { d.Posts = d.Posts[:1] },
		func(d *api.Directive) { d.Posts = nil },
		func(d *api.Directive) { d.Meta = nil },
		func(d *api.Directive) { d.Posts[1].Meta = nil },
		func(d *api.Directive) { d.Meta, d.Posts[0].Meta = nil, append(d.Meta, d.Posts[0].Meta...) },
		func(d *api.Directive) { d.Posts[1].Units.Num = number("5") },
		func(d *api.Directive) { d.Posts[1].Units.Num = number("5.00") },
		func(d *api.Directive) { d.Posts[0].Units.Num = number("-5.0") },
		func(d *api.Directive) { d.Amount.Num = number("5") },
	} {
		other := copied(one)
		change(&other)
		if written.Same(one, other) || written.Same(other, one) {
			t.Errorf("Same does not tell %v from %v", one, other)
		}
	}
	empty := api.Directive{Curs: []string{}, Tags: []string{}, Links: []string{}, Meta: []api.Meta{}, Posts: []api.Posting{}}
	if !written.Same(api.Directive{}, empty) {
		t.Error("Same tells lists that are nil from empty ones")
	}
}

// P18.3: whether all are the same, in order
func TestAll(t *testing.T) {
	a, b, c := examples()[0].d, examples()[1].d, full()
	moved := copied(c)
	moved.Pos.Line = 7
	lists := [][]api.Directive{nil, {a}, {b}, {c}, {a, b}, {b, a}, {a, a}, {a, b, c}, {a, c, b}, {c, b, a}, {a, b, c, a}, {a, b, c, {}}, {{}}}
	for i, l := range lists {
		for j, m := range lists {
			if written.All(l, m) != (i == j) {
				t.Errorf("All of list %d and list %d: %v", i, j, i != j)
			}
		}
	}
	if !written.All(nil, []api.Directive{}) || !written.All([]api.Directive{a, c}, []api.Directive{a, moved}) {
		t.Error("All tells lists from the same ones")
	}
}

// P18.4: how wide heads and whole digits are
func TestWide(t *testing.T) {
	tests := []struct {
		l    []api.Directive
		want int
	}{
		{nil, 0}, {[]api.Directive{{}, posts()}, 0},
		{[]api.Directive{posts(post("A", "5", "USD"))}, 2},
		{[]api.Directive{posts(post("A", "5.123456789", "USD"))}, 2},
		{[]api.Directive{posts(post("A", "-1234.5", "USD"))}, 6},
		{[]api.Directive{posts(post("A", "1234", "B.C"))}, 5},
		{[]api.Directive{posts(post("A", "5", ""))}, 2},
		{[]api.Directive{posts(post("", "5", ""))}, 1},
		{[]api.Directive{posts(api.Posting{Flag: "!", Account: "A:B", Units: of("0.00", "USD")})}, 6},
		{[]api.Directive{posts(api.Posting{Flag: "\xc3\xa9", Account: "\xc3\xa9", Units: of("5", "USD")})}, 6},
		{[]api.Directive{posts(api.Posting{Account: "A. B", Units: of("77", "USD")})}, 6},
		{[]api.Directive{posts(api.Posting{Account: "Assets:Bank:Giro", Units: api.Units{Cur: "USD"}}, post("A", "5", "USD"), api.Posting{Account: "Assets:Bank"})}, 2},
		{[]api.Directive{posts(api.Posting{Account: "A", Units: of("5", "USD"), Cost: api.Cost{Has: true, HasNum: true, Num: number("123456789.5"), Cur: "EUR"}})}, 2},
		{[]api.Directive{posts(api.Posting{Account: "Assets:Bank", Cost: api.Cost{Has: true, HasNum: true, Num: number("5.5"), Cur: "EUR"}})}, 0},
		{[]api.Directive{posts(post("A", "1", "U"), post("AAA", "1", "U"), post("AA", "1.55555", "U")), posts(post("A", "22", "U"))}, 4},
		{[]api.Directive{posts(post("A", "1", "U")), {Kind: api.DoClose, Account: "Assets:Bank", Meta: []api.Meta{{Key: "a", Text: "55555"}}}, posts(post("A", "333", "U"), post("A", "4", "U")), posts()}, 4},
		{[]api.Directive{{Kind: api.DoNote, Posts: []api.Posting{post("AAA", "5", "U")}}, {Kind: -7, Posts: []api.Posting{post("AAAA", "5", "U")}}}, 5},
	}
	for n, c := range tests {
		if got := written.Wide(c.l); got != c.want {
			t.Errorf("Wide of %d, %q: %d, want %d", n, written.Print(c.l), got, c.want)
		}
	}
}

// P18.5: lines with whole digits that end in one column, and empty lines
func TestAligned(t *testing.T) {
	l := journal("option \"a\" \"b\"", "2024-01-02 open Assets:Bank", "  a: \"b\"", "2024-01-02 * \"food\"", "  a: \"b\"", "  ! Assets:Bank -1,005.00 USD", "    c: \"d\"", "  Expenses:Food 5 ACME {10.25 USD} @ 1.5 EUR", "  Assets:Giro USD", "  Assets:Giro ACME {5.5 USD}", "  Equity:Left", "2024-01-02 txn", "  Assets:A 0.125 USD")
	want := `option "a" "b"

2024-01-02 open Assets:Bank
  a: "b"

2024-01-02 * "food"
  a: "b"
  ! Assets:Bank -1005.00 USD
    c: "d"
  Expenses:Food     5 ACME {10.25 USD} @ 1.5 EUR
  Assets:Giro  USD
  Assets:Giro  ACME {5.5 USD}
  Equity:Left

2024-01-02 * ""
  Assets:A          0.125 USD
`
	if got := written.Aligned(l); got != want {
		t.Errorf("Aligned: %s, want %s", got, want)
	}
	tests := []struct {
		l    []api.Directive
		want string
	}{
		{nil, ""}, {[]api.Directive{}, ""},
		{[]api.Directive{{}}, "\n"}, {make([]api.Directive, 3), "\n\n\n\n\n"},
		{[]api.Directive{posts(post("A", "5", "U"))}, "2024-01-02 * \"\"\n  A 5 U\n"},
		{[]api.Directive{posts(api.Posting{})}, "2024-01-02 * \"\"\n  \n"},
		{[]api.Directive{posts(api.Posting{Flag: "!"}, post("", "5", "U"), api.Posting{Flag: "*", Units: of("6", "U")})}, "2024-01-02 * \"\"\n  ! \n     5 U\n  *  6 U\n"},
		{[]api.Directive{posts(post("A", "5", ""), post("AAA", "55", ""))}, "2024-01-02 * \"\"\n  A    5 \n  AAA 55 \n"},
		{[]api.Directive{posts(api.Posting{Account: "A", Cost: api.Cost{Has: true}}, api.Posting{Account: "A", Price: api.Price{Has: true}}, post("AAAA", "5.5", "U"))}, "2024-01-02 * \"\"\n  A  {}\n  A  @\n  AAAA 5.5 U\n"},
		{[]api.Directive{posts(api.Posting{Account: "A", Price: api.Price{Has: true}})}, "2024-01-02 * \"\"\n  A  @\n"},
	}
	for n, c := range tests {
		if got := written.Aligned(c.l); got != c.want {
			t.Errorf("Aligned of %d, %q: %q, want %q", n, written.Print(c.l), got, c.want)
		}
	}
}

// P18.5: at most so many blanks
func TestMostBlanks(t *testing.T) {
	for _, c := range []struct{ long, want int }{{3, 3}, {500, 500}, {998, 998}, {999, 999}, {1000, 1000}, {1001, 1000}, {1002, 1000}, {5000, 1000}} {
		account := strings.Repeat("A", c.long)
		l := []api.Directive{posts(post(account, "1", "U"), post("A", "1.5", "U"), post("A", "-22", "U"), api.Posting{Account: "A", Units: api.Units{Cur: "U"}})}
		fewer := func(n int) string { return strings.Repeat(" ", min(c.long-n, 1000)) }
		want := "2024-01-02 * \"\"\n  " + account + " 1 U\n  A" + strings.Repeat(" ", c.want) + "1.5 U\n  A" + fewer(2) + "-22 U\n  A  U\n"
		if got := written.Aligned(l); got != want {
			t.Errorf("Aligned with a head of %d bytes: %q", c.long, got)
		}
	}
}

// wholeDigits is what stands at a rest's beginning ahead of its first full stop or blank.
var wholeDigits = regexp.MustCompile(`^[^. ]*`)

// model answers what Wide, Print and Aligned are to tell of l: each line is told for itself.
func model(l []api.Directive) (wide int, print, aligned string) {
	top := func(p api.Posting) string {
		return strings.TrimPrefix(p.Flag+" "+p.Account, map[bool]string{true: " "}[p.Flag == ""])
	}
	split := func(p api.Posting) (string, string) {
		rest := body.PostingText(p)[len(top(p)):]
		whole := wholeDigits.FindString(rest[min(len(rest), 1):])
		return whole, rest[min(len(rest), 1+len(whole)):]
	}
	for _, d := range l {
		for _, p := range d.Posts {
			if whole, _ := split(p); p.Units.HasNum && len(top(p)+whole) > wide {
				wide = len(top(p) + whole)
			}
		}
	}
	var plain, even []string
	for _, d := range l {
		lines := []string{head.Text(d) + "\n"}
		for _, m := range d.Meta {
			lines = append(lines, "  "+body.MetaText(m)+"\n")
		}
		inLine := slices.Clone(lines)
		for _, p := range d.Posts {
			whole, behind := split(p)
			lines = append(lines, "  "+body.PostingText(p)+"\n")
			if p.Units.HasNum {
				inLine = append(inLine, fmt.Sprintf("  %s%*s%s\n", top(p), min(wide-len(top(p))+1, 1000+len(whole)), whole, behind))
			} else if body.PostingText(p) == top(p) {
				inLine = append(inLine, "  "+top(p)+"\n")
			} else {
				inLine = append(inLine, "  "+top(p)+"  "+whole+behind+"\n")
			}
			for _, m := range p.Meta {
				lines, inLine = append(lines, "    "+body.MetaText(m)+"\n"), append(inLine, "    "+body.MetaText(m)+"\n")
			}
		}
		plain, even = append(plain, strings.Join(lines, "")), append(even, strings.Join(inLine, ""))
	}
	return wide, strings.Join(plain, ""), strings.Join(even, "\n")
}

// check holds what is told of l against the model.
func check(t *testing.T, l []api.Directive) {
	t.Helper()
	wide, print, aligned := model(l)
	if got := written.Wide(l); got != wide {
		t.Fatalf("Wide of %q: %d, want %d", print, got, wide)
	}
	if got := written.Print(l); got != print {
		t.Fatalf("Print: %q, want %q", got, print)
	}
	if got := written.Aligned(l); got != aligned {
		t.Fatalf("Aligned: %q, want %q", got, aligned)
	}
	ones := ""
	for _, d := range l {
		ones += written.One(d)
	}
	if ones != print {
		t.Fatalf("One of each: %q, want %q", ones, print)
	}
}

// anything answers directives that no text need tell.
func anything(rnd *rand.Rand) []api.Directive {
	pick := func(l ...string) string { return l[rnd.Intn(len(l))] }
	yes := func() bool { return rnd.Intn(2) == 0 }
	num := func() api.Dec {
		return number(pick("0", "5", "-5", "0.00", "-0.05", "1,234.50", "123456789012345678901.5"))
	}
	said := func() []api.Meta {
		return []api.Meta{{Key: "a", Text: "b"}, {Key: pick("", "c"), Text: pick("", "\"", "\xff")}}[:rnd.Intn(3)]
	}
	l := make([]api.Directive, rnd.Intn(4))
	for n := range l {
		d := api.Directive{Kind: rnd.Intn(12) - 1, Date: first, Account: pick("", "Assets:Bank"), Flag: pick("*", "!", ""), Narration: pick("", "a"), Curs: []string{"USD"}, Meta: said()}
		for range rnd.Intn(5) {
			d.Posts = append(d.Posts, api.Posting{
				Flag:    pick("", "", "*", "!", "P.", "\xc3\xa9"),
				Account: pick("", "A", "Assets:Bank", "Assets:Bank.Giro 5", "Equity:Opening-Balances:Of:All", "\xff", strings.Repeat("A:", rnd.Intn(520))),
				Units:   api.Units{HasNum: yes(), Num: num(), Cur: pick("", "USD", "A.B", " ")},
				Cost:    api.Cost{Has: yes(), Total: yes(), HasNum: yes(), Num: num(), Cur: pick("", "EUR"), Label: pick("", "a")},
				Price:   api.Price{Has: yes(), Total: yes(), HasNum: yes(), Num: num(), Cur: pick("", "EUR")},
				Meta:    said(),
			})
		}
		l[n] = d
	}
	return l
}

// P18.1, P18.2, P18.4, P18.5: of any directives
func TestAnything(t *testing.T) {
	rnd := rand.New(rand.NewSource(18))
	for range 10_000 {
		check(t, anything(rnd))
	}
}

// texts answers journals without faults.
func texts(times int) []string {
	rnd := rand.New(rand.NewSource(181))
	pick := func(l ...string) string { return l[rnd.Intn(len(l))] }
	blanks := func() string { return pick(" ", " ", "  ", "\t") }
	account := func() string {
		return pick("Assets:Bank", "Liabilities:A-1", "Equity:Opening-Balances:2024", "Income:X", "Expenses:Food:Out")
	}
	cur := func() string { return pick("USD", "ACME", "V'A.C_H-R1", "A") }
	num := func() string {
		return pick("5", "-5", "+ 5", "0", "-0.00", "1,234.50", "-1,000,000", "(1 + 2.5) * -3", "1 / 3", "10 / 4", "0.000000000001", "123456789012345678901234567890.5", "- -7.10", "007.70")
	}
	text := func() string {
		return pick("\"\"", "\"a\"", "\"a \\\"b\\\" \\\\ \\n \\t\"", "\"\xc3\xa9 ; * #a\"", "\"\r\t\"", "\"  \"")
	}
	units := func() string { return pick("", cur(), num()+blanks()+cur(), num()+" "+cur()) }
	cost := func() string {
		within := pick("", cur(), num()+" "+cur(), "2024/01/02", "\"a\"", num()+" "+cur()+", 2024-01-02,\"b \\\"\"", "\"a\","+cur())
		return pick("", " {"+within+"}", "{{"+within+"}}")
	}
	price := func() string { return pick("", " @", "@@", " @ "+cur(), " @@"+num()+" "+cur(), "@ "+num()+cur()) }
	firsts := func() string {
		day := pick("2024-01-02", "2024/02/29", "0001-01-01", "9999-12-31") + blanks()
		return pick("option "+text()+text(), day+"open "+account(), day+"open "+account()+" "+cur()+" , "+cur()+pick("", " \"STRICT\"", "\"LIFO\"", "\"NONE\""), day+"open "+account()+" \"AVERAGE\"",
			day+"close "+account(), day+"commodity "+cur(), day+"price "+cur()+" "+num()+" "+cur(), day+"pad "+account()+" "+account(), day+"note "+account()+text(),
			day+"balance "+account()+" "+num()+pick("", " ~ 0.005", "~1 / 3")+" "+cur())
	}
	txn := func() string {
		return pick("2024-01-02", "1999/12/31") + pick(" * ", " ! ", " txn ") + pick("", text(), text()+text()) + pick("", "#a", "#b ^c #a ^d", "^e #c^e")
	}
	all := make([]string, times)
	for n := range all {
		var l []string
		add := func(s string) {
			l = append(l, s+pick("", "", " ; remark", " ", "\r"))
			for rnd.Intn(8) == 0 {
				l = append(l, pick("", "  ", "; a", "* b", " ; c"))
			}
		}
		said := func() {
			for rnd.Intn(3) == 0 {
				add(pick(" ", "  ", "\t") + pick("a", "file-name", "x_Y") + ": " + text())
			}
		}
		on := []string{}
		for range rnd.Intn(7) {
			switch rnd.Intn(5) {
			case 0:
				on = append(on, pick("a", "trip/2024"))
				add("pushtag #" + on[len(on)-1])
			case 1:
				s := firsts()
				add(s)
				if !strings.HasPrefix(s, "option") {
					said()
				}
			default:
				add(txn())
				said()
				for range rnd.Intn(5) {
					u := units()
					if u != "" {
						u = " " + u + cost() + price()
					}
					add(pick(" ", "    ", "\t") + pick("", "", "!", "* ") + account() + u)
					said()
				}
			}
		}
		for _, tag := range on {
			add("poptag #" + tag)
		}
		all[n] = strings.Join(l, "\n")
	}
	return all
}

// P18.6, P18.7: what was parsed is parsed again, the same, from what is printed, and from what is aligned
func TestReadAgain(t *testing.T) {
	kinds, postings := map[int]int{}, 0
	for _, s := range texts(10_000) {
		j := parse.Parse(s)
		if len(j.Faults) > 0 {
			t.Fatalf("%q has faults: %v", s, j.Faults)
		}
		check(t, j.L)
		print, aligned := written.Print(j.L), written.Aligned(j.L)
		for _, text := range []string{print, aligned} {
			again := parse.Parse(text)
			if len(again.Faults) > 0 || !written.All(again.L, j.L) || !written.All(j.L, again.L) {
				t.Fatalf("%q of %q: %v, want %v", text, s, again, j.L)
			}
			if written.Print(again.L) != print || written.Aligned(again.L) != aligned {
				t.Fatalf("%q of %q: %q and %q", text, s, written.Print(again.L), written.Aligned(again.L))
			}
		}
		for _, d := range j.L {
			kinds[d.Kind]++
			postings += len(d.Posts)
		}
		column(t, j.L, aligned)
	}
	if len(kinds) != 9 || postings < 10_000 {
		t.Errorf("directives of these kinds: %v, and %d postings", kinds, postings)
	}
}

// column checks that the whole digits of all units end in one column of what is aligned.
func column(t *testing.T, l []api.Directive, aligned string) {
	t.Helper()
	lines, again := strings.Split(aligned, "\n"), parse.Parse(aligned).L
	for i, d := range l {
		for n, p := range d.Posts {
			if !p.Units.HasNum {
				continue
			}
			whole, _, _ := strings.Cut(dectext.Text(p.Units.Num), ".")
			line := lines[again[i].Posts[n].Pos.Line-1]
			if end := 3 + written.Wide(l); len(line) <= end || !strings.HasSuffix(line[:end], " "+whole) || line[end] != ' ' && line[end] != '.' {
				t.Fatalf("the whole digits of %q end elsewhere than at %d", line, end)
			}
		}
	}
}

// R3: what is handed in stays as it was, as does the room behind its lists
func TestMemory(t *testing.T) {
	numbers := func() api.Nat { return append(make(api.Nat, 0, 9), 5, 7) }
	d := full()
	d.Amount.Num.Coef, d.Tol.Coef, d.Posts[0].Units.Num.Coef, d.Posts[0].Cost.Num.Coef, d.Posts[0].Price.Num.Coef = numbers(), numbers(), numbers(), numbers(), numbers()
	d.Meta, d.Posts, d.Curs, d.Tags, d.Links = append(make([]api.Meta, 0, 9), d.Meta...), append(make([]api.Posting, 0, 9), d.Posts...), append(make([]string, 0, 9), d.Curs...), append(make([]string, 0, 9), d.Tags...), append(make([]string, 0, 9), d.Links...)
	room := append(make([]api.Directive, 0, 9), d, d)
	before := []api.Directive{copied(d), copied(d)}
	tell := func() string {
		same := written.Same(room[0], room[1]) && written.All(room, before) && written.All(before, room)
		return fmt.Sprint(written.Print(room), written.Aligned(room), written.Wide(room), written.One(room[0]), same)
	}
	if told := tell(); told != tell() || !strings.HasSuffix(told, "true") {
		t.Errorf("what is told is another thing: %s", told)
	}
	if !reflect.DeepEqual(room, before) {
		t.Errorf("directives were changed: %v", room)
	}
	for _, behind := range []any{room[2:9], d.Meta[2:9], d.Posts[2:9], d.Curs[2:9], d.Tags[2:9], d.Links[2:9], d.Amount.Num.Coef[2:9], d.Tol.Coef[2:9], d.Posts[0].Units.Num.Coef[2:9], d.Posts[0].Cost.Num.Coef[2:9], d.Posts[0].Price.Num.Coef[2:9]} {
		v := reflect.ValueOf(behind)
		for n := range v.Len() {
			if !v.Index(n).IsZero() {
				t.Errorf("the room behind a list was changed: %v", behind)
			}
		}
	}
}

// R1: whatever is handed in, calls end without a panic
func TestOddArguments(t *testing.T) {
	for _, num := range []api.Dec{{}, {Scale: math.MinInt}, {Scale: math.MaxInt}, {Neg: true, Coef: api.Nat{0, math.MaxUint32, 0}, Scale: -3}, {Coef: api.Nat{1}, Scale: math.MaxInt}} {
		for _, n := range []int{math.MinInt, -1, 0, 1, 5, math.MaxInt} {
			p := api.Posting{Flag: "\n", Account: "\xff", Units: api.Units{HasNum: true, Num: num}, Cost: api.Cost{Has: true, HasNum: true, Num: num, Date: api.Date{Year: n, Month: -n, Day: n}}, Price: api.Price{Has: true, HasNum: true, Num: num}, Meta: []api.Meta{{Key: "\x00", Text: "\xff"}}, Pos: api.Pos{Line: n, Col: n}}
			d := api.Directive{Date: api.Date{Year: n, Month: -n, Day: n}, Book: n, Account: "\xff", Amount: api.Amount{Num: num}, HasTol: true, Tol: num, Meta: p.Meta, Posts: []api.Posting{p, {}, p, post("Assets:Bank:Giro", "5", "USD")}, Pos: api.Pos{Line: n, Col: n}}
			for _, d.Kind = range []int{n, -1, 0, 1, 2, 3, 4, 5, 6, 7, 8, 9, 10} {
				l := []api.Directive{d, {}, d}
				check(t, l)
				written.Same(d, d)
				written.Same(d, api.Directive{})
				written.All(l, l[1:])
				written.All(l, l)
			}
		}
	}
}

// long journals are told in time that goes with their length
func TestLong(t *testing.T) {
	const many = 200_000
	p := post("Assets:Bank", "-1234.50", "USD")
	p.Meta = []api.Meta{{Key: "a", Text: "b"}}
	const line, said = "  Assets:Bank -1234.50 USD\n", "    a: \"b\"\n"
	one := posts(slices.Repeat([]api.Posting{p}, many)...)
	l := slices.Repeat([]api.Directive{posts(p)}, many)
	start := time.Now()
	if got := written.One(one); got != "2024-01-02 * \"\"\n"+strings.Repeat(line+said, many) {
		t.Errorf("One of many postings has %d bytes", len(got))
	}
	if got := written.Print(l); got != strings.Repeat("2024-01-02 * \"\"\n"+line+said, many) {
		t.Errorf("Print of many directives has %d bytes", len(got))
	}
	if got := written.Aligned(l); got+"\n" != strings.Repeat("2024-01-02 * \"\"\n"+line+said+"\n", many) {
		t.Errorf("Aligned of many directives has %d bytes", len(got))
	}
	if written.Wide(l) != 16 || !written.All(l, slices.Clone(l)) || !written.Same(one, copied(one)) || written.All(l, l[1:]) {
		t.Error("many directives are told apart")
	}
	if took := time.Since(start); took > time.Minute {
		t.Errorf("that took %v", took)
	}
}
