package body_test

import (
	"fmt"
	"math"
	"math/rand"
	"reflect"
	"slices"
	"strings"
	"testing"

	"quittance/amount"
	"quittance/api"
	"quittance/body"
	"quittance/dectext"
	"quittance/lex"
)

// number answers the decimal that is written as s.
func number(s string) api.Dec {
	d, err := dectext.Parse(s)
	if err != api.OK {
		panic(s)
	}
	return d
}

// of makes units with a number.
func of(num, cur string) api.Units { return api.Units{HasNum: true, Num: number(num), Cur: cur} }

// at makes a price of one unit.
func at(num, cur string) api.Price {
	return api.Price{Has: true, HasNum: true, Num: number(num), Cur: cur}
}

// day makes a day.
func day(year, month, n int) api.Date { return api.Date{Year: year, Month: month, Day: n} }

// words answers the words of s, in line 7.
func words(s string) []api.Token {
	l, fault := lex.Words(api.Line{No: 7, Text: s})
	if fault != (api.Fault{}) {
		panic(s)
	}
	return l
}

// written answers words as they are written, with blanks between.
func written(l []api.Token) string {
	var all []string
	for _, w := range l {
		all = append(all, lex.Text(w))
	}
	return strings.Join(all, " ")
}

// plain answers p so that lists that are nil and empty ones are alike.
func plain(p api.Posting) api.Posting {
	for _, num := range []*api.Dec{&p.Units.Num, &p.Cost.Num, &p.Price.Num} {
		num.Coef = append(api.Nat{}, num.Coef...)
	}
	p.Meta = append([]api.Meta{}, p.Meta...)
	return p
}

// is checks what Posting tells of l.
func is(t *testing.T, l []api.Token, want api.Posting, wantPlace int, wantErr api.Errno) {
	t.Helper()
	got, place, err := body.Posting(l)
	if !reflect.DeepEqual(plain(got), plain(want)) || place != wantPlace || err != wantErr {
		t.Fatalf("Posting of %s: %v, %d, %d, want %v, %d, %d", written(l), got, place, err, want, wantPlace, wantErr)
	}
}

// says checks what Meta tells of l.
func says(t *testing.T, l []api.Token, want api.Meta, wantPlace int, wantErr api.Errno) {
	t.Helper()
	got, place, err := body.Meta(l)
	if got != want || place != wantPlace || err != wantErr {
		t.Fatalf("Meta of %s: %v, %d, %d, want %v, %d, %d", written(l), got, place, err, want, wantPlace, wantErr)
	}
}

// example is a line, the posting that it is, and how that is written.
type example struct {
	s    string
	p    api.Posting
	text string
}

// examples answers lines of postings.
func examples() []example {
	bank, stock := "Assets:Bank", "Assets:Stock"
	ten := api.Cost{Has: true, HasNum: true, Num: number("10"), Cur: "USD"}
	full := api.Cost{Has: true, Total: true, HasNum: true, Num: number("100.50"), Cur: "USD", Date: day(2024, 1, 2), Label: "a"}
	return []example{
		{"! Assets:Stock -5 ACME {10 USD} @ 12 USD", api.Posting{Flag: "!", Account: stock, Units: of("-5", "ACME"), Cost: ten, Price: at("12", "USD")}, ""},
		{"Assets:Bank", api.Posting{Account: bank}, ""},
		{"* Assets:Bank ; what is left", api.Posting{Flag: "*", Account: bank}, "* Assets:Bank"},
		{"!Assets:Bank", api.Posting{Flag: "!", Account: bank}, "! Assets:Bank"},
		{"Assets:Bank USD", api.Posting{Account: bank, Units: api.Units{Cur: "USD"}}, ""},
		{"* Assets:Bank  10.00  USD", api.Posting{Flag: "*", Account: bank, Units: of("10.00", "USD")}, "* Assets:Bank 10.00 USD"},
		{"Assets:Bank 0 USD", api.Posting{Account: bank, Units: of("0", "USD")}, ""},
		{"Assets:Bank -1,000.5 USD", api.Posting{Account: bank, Units: of("-1000.5", "USD")}, "Assets:Bank -1000.5 USD"},
		{"Assets:Bank (1 + 2) * 3 / 4 USD", api.Posting{Account: bank, Units: of("2.25", "USD")}, "Assets:Bank 2.25 USD"},
		{"Assets:Stock 5 ACME {}", api.Posting{Account: stock, Units: of("5", "ACME"), Cost: api.Cost{Has: true}}, ""},
		{"Assets:Stock 5 ACME {{}}", api.Posting{Account: stock, Units: of("5", "ACME"), Cost: api.Cost{Has: true, Total: true}}, ""},
		{"Assets:Stock 5 ACME{10 USD}", api.Posting{Account: stock, Units: of("5", "ACME"), Cost: ten}, "Assets:Stock 5 ACME {10 USD}"},
		{"* Assets:Stock 5 ACME {{\"a\", 2024/01/02, 100.50 USD}} @@ -0.00 EUR", api.Posting{Flag: "*", Account: stock, Units: of("5", "ACME"), Cost: full, Price: api.Price{Has: true, Total: true, HasNum: true, Num: number("0.00"), Cur: "EUR"}}, "* Assets:Stock 5 ACME {{100.50 USD, 2024-01-02, \"a\"}} @@ 0.00 EUR"},
		{"Assets:Stock ACME {USD}", api.Posting{Account: stock, Units: api.Units{Cur: "ACME"}, Cost: api.Cost{Has: true, Cur: "USD"}}, ""},
		{"Assets:Stock ACME @ 12 USD", api.Posting{Account: stock, Units: api.Units{Cur: "ACME"}, Price: at("12", "USD")}, ""},
		{"! Assets:Stock ACME {10 USD} @@ EUR", api.Posting{Flag: "!", Account: stock, Units: api.Units{Cur: "ACME"}, Cost: ten, Price: api.Price{Has: true, Total: true, Cur: "EUR"}}, ""},
		{"Assets:Bank 5 USD @", api.Posting{Account: bank, Units: of("5", "USD"), Price: api.Price{Has: true}}, ""},
		{"Assets:Bank 5 USD @@ EUR", api.Posting{Account: bank, Units: of("5", "USD"), Price: api.Price{Has: true, Total: true, Cur: "EUR"}}, ""},
		{"Assets:Bank 5 USD @ -1.25 EUR", api.Posting{Account: bank, Units: of("5", "USD"), Price: at("-1.25", "EUR")}, ""},
		{"Assets:Stock 5 ACME {10 USD} @@", api.Posting{Account: stock, Units: of("5", "ACME"), Cost: ten, Price: api.Price{Has: true, Total: true}}, ""},
	}
}

// P16.1: what is read to its end
func TestPosting(t *testing.T) {
	for _, c := range examples() {
		l := words(c.s)
		c.p.Pos = api.Pos{Line: 7, Col: 1}
		is(t, l, c.p, len(l), api.OK)
		l = words(" \t" + c.s)
		c.p.Pos.Col = 3
		is(t, l, c.p, len(l), api.OK)
	}
}

// P16.1: the first fault, and its word's place
func TestPostingFaults(t *testing.T) {
	tests := []struct {
		s     string
		place int
		want  api.Errno
	}{
		{"", 0, api.ErrShort}, {"*", 1, api.ErrShort}, {"!", 1, api.ErrShort}, {"* *", 1, api.ErrForm}, {"* !Assets:Bank", 1, api.ErrForm}, {"! 5 USD", 1, api.ErrForm}, {"~ Assets:Bank", 0, api.ErrForm}, {"@ Assets:Bank", 0, api.ErrForm}, {"{Assets:Bank}", 0, api.ErrForm}, {"- Assets:Bank", 0, api.ErrForm},
		{"5 USD", 0, api.ErrForm}, {"USD", 0, api.ErrForm}, {"\"Assets:Bank\"", 0, api.ErrForm}, {"a: \"b\"", 0, api.ErrForm}, {"txn Assets:Bank", 0, api.ErrForm}, {"#a", 0, api.ErrForm}, {"^a", 0, api.ErrForm}, {"2024-01-02", 0, api.ErrForm}, {"* \"Assets:Bank\"", 1, api.ErrForm}, {"! txn", 1, api.ErrForm},
		{"Assets:Bank *", 1, api.ErrForm}, {"Assets:Bank Assets:Giro", 1, api.ErrForm}, {"* Assets:Bank \"a\"", 2, api.ErrForm}, {"Assets:Bank #a", 1, api.ErrForm}, {"Assets:Bank a", 1, api.ErrForm}, {"Assets:Bank a: \"b\"", 1, api.ErrForm}, {"Assets:Bank ,", 1, api.ErrForm}, {"Assets:Bank ~ 5 USD", 1, api.ErrForm}, {"Assets:Bank 2024-01-02", 1, api.ErrForm},
		{"Assets:Stock {10 USD}", 1, api.ErrForm}, {"* Assets:Stock {}", 2, api.ErrForm}, {"Assets:Stock {{}}", 1, api.ErrForm}, {"Assets:Stock {", 1, api.ErrForm}, {"Assets:Bank @ 5 USD", 1, api.ErrForm}, {"Assets:Bank @@", 1, api.ErrForm}, {"! Assets:Bank @", 2, api.ErrForm},
		{"Assets:Bank 5", 2, api.ErrShort}, {"Assets:Bank -", 2, api.ErrShort}, {"Assets:Bank 5 +", 3, api.ErrShort}, {"Assets:Bank (5", 3, api.ErrShort}, {"Assets:Bank 5 *", 3, api.ErrShort}, {"Assets:Bank (5 USD", 3, api.ErrForm}, {"Assets:Bank )", 1, api.ErrForm}, {"Assets:Bank - USD", 2, api.ErrForm}, {"Assets:Bank 5 \"USD\"", 2, api.ErrForm}, {"Assets:Bank 5 {10 USD}", 2, api.ErrForm}, {"Assets:Bank 5 @ 10 USD", 2, api.ErrForm}, {"Assets:Bank 5 / 0 USD", 2, api.ErrZero}, {"* Assets:Bank 5 / (1 - 1) USD", 3, api.ErrZero}, {"Assets:Bank " + strings.Repeat("(", 65), 65, api.ErrDeep}, {"Assets:Bank 5 5 USD", 2, api.ErrForm},
		{"Assets:Bank USD EUR", 2, api.ErrForm}, {"Assets:Bank USD 5", 2, api.ErrForm}, {"Assets:Bank 5 USD EUR", 3, api.ErrForm}, {"Assets:Bank 5 USD, 6 EUR", 3, api.ErrForm}, {"Assets:Bank 5 USD 6 EUR", 3, api.ErrForm}, {"Assets:Bank 5 USD ~ 1", 3, api.ErrForm}, {"Assets:Bank 5 USD \"a\"", 3, api.ErrForm}, {"Assets:Bank 5 USD #a", 3, api.ErrForm}, {"Assets:Bank 5 USD *", 3, api.ErrForm}, {"Assets:Bank 5 USD !", 3, api.ErrForm}, {"Assets:Bank USD * 5", 2, api.ErrForm},
		{"Assets:Stock 5 ACME {", 4, api.ErrShort}, {"Assets:Stock 5 ACME {{", 4, api.ErrShort}, {"Assets:Stock 5 ACME {10", 5, api.ErrShort}, {"Assets:Stock 5 ACME {10 USD", 6, api.ErrShort}, {"Assets:Stock 5 ACME {10 USD}}", 6, api.ErrForm}, {"Assets:Stock 5 ACME {{10 USD}", 6, api.ErrForm}, {"Assets:Stock 5 ACME {10 USD,", 7, api.ErrShort}, {"Assets:Stock 5 ACME {10 USD,}", 7, api.ErrForm}, {"Assets:Stock 5 ACME {10 USD, 5 USD}", 7, api.ErrForm}, {"Assets:Stock 5 ACME {\"a\", \"b\"}", 6, api.ErrForm}, {"Assets:Stock 5 ACME {\"\"}", 4, api.ErrForm}, {"Assets:Stock 5 ACME {1 / 0 USD}", 5, api.ErrZero}, {"Assets:Stock 5 ACME } @ 5 USD", 3, api.ErrForm}, {"Assets:Stock ACME {1 +", 5, api.ErrShort},
		{"Assets:Stock 5 ACME {} {}", 5, api.ErrForm}, {"Assets:Stock 5 ACME {} 5 USD", 5, api.ErrForm}, {"Assets:Stock 5 ACME {} USD", 5, api.ErrForm}, {"Assets:Stock 5 ACME {} \"a\"", 5, api.ErrForm},
		{"Assets:Bank 5 USD @ 6", 5, api.ErrShort}, {"Assets:Bank 5 USD @ -", 5, api.ErrShort}, {"Assets:Bank 5 USD @ 6 7", 5, api.ErrForm}, {"Assets:Bank 5 USD @ 1 / 0 EUR", 5, api.ErrZero}, {"Assets:Bank 5 USD @ 6 EUR USD", 6, api.ErrForm}, {"Assets:Bank 5 USD @ EUR 6", 5, api.ErrForm}, {"Assets:Bank 5 USD @ @ 6 EUR", 4, api.ErrForm}, {"Assets:Bank 5 USD @@ \"a\"", 4, api.ErrForm}, {"Assets:Bank 5 USD @ 6 EUR {5 EUR}", 6, api.ErrForm}, {"Assets:Bank 5 USD @ {5 EUR}", 4, api.ErrForm}, {"Assets:Stock ACME {} @ 6", 6, api.ErrShort}, {"Assets:Stock ACME {} @ 6 USD @ 6 USD", 7, api.ErrForm}, {"Assets:Bank 5 USD @@ " + strings.Repeat("-", 65) + "5 EUR", 68, api.ErrDeep},
	}
	for _, c := range tests {
		is(t, words(c.s), api.Posting{}, c.place, c.want)
	}
}

// P16.1: a flag is a sign, an account is a word of that kind.
func TestKindsOfWords(t *testing.T) {
	where := api.Pos{Line: 7, Col: 1}
	for _, text := range []string{"*", "!", "~", "**", "", "#", "P", "txn"} {
		for kind := -1; kind < 12; kind++ {
			l := []api.Token{{Kind: kind, Text: text, Pos: where}, {Kind: api.TkAccount, Text: "Assets:Bank"}}
			switch {
			case kind == api.TkSign && (text == "*" || text == "!"):
				is(t, l, api.Posting{Flag: text, Account: "Assets:Bank", Pos: where}, 2, api.OK)
			case kind == api.TkAccount:
				is(t, l, api.Posting{}, 1, api.ErrForm)
				is(t, l[:1], api.Posting{Account: text, Pos: where}, 1, api.OK)
			default:
				is(t, l, api.Posting{}, 0, api.ErrForm)
				is(t, l[:1], api.Posting{}, 0, api.ErrForm)
			}
		}
	}
}

// P16.1: a word for a currency that says nothing is read, but is none; behind it alone stands neither a cost nor a price.
func TestEmptyCurrency(t *testing.T) {
	none := api.Token{Kind: api.TkCur}
	bank := words("* Assets:Bank")
	p := api.Posting{Flag: "*", Account: "Assets:Bank", Pos: api.Pos{Line: 7, Col: 1}}
	l := append(slices.Clone(bank), none)
	is(t, l, p, 3, api.OK)
	for _, s := range []string{"{}", "{{5 USD}}", "{", "@", "@@ 5 USD", "@ 5 / 0", "5 USD", "USD"} {
		is(t, append(slices.Clone(l), words(s)...), api.Posting{}, 3, api.ErrForm)
	}
	is(t, append(slices.Clone(l), none), api.Posting{}, 3, api.ErrForm)

	l = append(words("* Assets:Bank 5"), none)
	p.Units = of("5", "")
	is(t, l, p, 4, api.OK)
	l = append(l, words("{USD} @")...)
	p.Cost, p.Price = api.Cost{Has: true, Cur: "USD"}, api.Price{Has: true}
	is(t, l, p, 8, api.OK)
	is(t, append(l, none), p, 9, api.OK)
}

// P16.1: words that end too soon are short, whatever lies in the room behind.
func TestCutShort(t *testing.T) {
	l := words("! Assets:Stock -(2 + 3) ACME {10 / 2 USD, 2024-01-02, \"a\"} @ 3 * 4 USD")
	ends := map[int]string{2: "! Assets:Stock", 9: "! Assets:Stock -5 ACME", 19: "! Assets:Stock -5 ACME {5 USD, 2024-01-02, \"a\"}", 20: "! Assets:Stock -5 ACME {5 USD, 2024-01-02, \"a\"} @", 24: "! Assets:Stock -5 ACME {5 USD, 2024-01-02, \"a\"} @ 12 USD"}
	for n := range len(l) + 1 {
		p, place, err := body.Posting(l[:n])
		text, there := ends[n]
		switch {
		case there && (place != n || err != api.OK || body.PostingText(p) != text):
			t.Errorf("Posting of %s: %v, %d, %d", written(l[:n]), p, place, err)
		case !there:
			is(t, l[:n], api.Posting{}, n, api.ErrShort)
		}
	}
}

// step is from where which sort of word leads to where.
type step struct {
	from string
	by   string
	to   string
}

// sums answers how arithmetic without ( and / goes on, from there to where a currency leads to the place behind.
func sums(from, named, behind string) []step {
	in, out := named+" sum", named+" sums"
	l := []step{{out, "*", in}, {out, "cur", behind}, {out, "none", behind}}
	for _, sign := range []string{"+", "-"} {
		l = append(l, step{from, sign, in}, step{in, sign, in}, step{out, sign, in})
	}
	return append(l, step{from, "number", out}, step{in, "number", out})
}

// costs answers how a cost goes on that begins with a sign, to the place behind: which parts are there is told by bits.
func costs(begin, end string) []step {
	l := []step{{"units+", begin, begin}, {begin, end, "lot+"}}
	for had := range 8 {
		part := fmt.Sprint(begin, " part ", had)
		next := fmt.Sprint(begin, " next ", had)
		l = append(l, step{part, ",", next}, step{part, end, "lot+"})
		from := []string{next}
		if had == 0 {
			from = append(from, begin)
		}
		for _, next := range from {
			for bit, by := range []string{"day", "text", "cur"} {
				if had&(1<<bit) == 0 {
					l = append(l, step{next, by, fmt.Sprint(begin, " part ", had|1<<bit)})
				}
			}
			if had&4 != 0 {
				continue
			}
			l = append(l, step{next, "none", part})
			for _, s := range sums(next, next, part) {
				if s.by == "cur" {
					s.to = fmt.Sprint(begin, " part ", had|4)
				}
				l = append(l, s)
			}
		}
	}
	return l
}

// steps answers how postings go on, word by word. Arithmetic has no ( and no / here; all that have a + at their end may be the last ones.
func steps() []step {
	return slices.Concat([]step{
		{"", "*", "flag"}, {"", "!", "flag"}, {"", "account", "account+"}, {"flag", "account", "account+"},
		{"account+", "cur", "units+"}, {"account+", "none", "end+"},
		{"units+", "@", "price+"}, {"units+", "@@", "price+"}, {"lot+", "@", "price+"}, {"lot+", "@@", "price+"},
		{"price+", "cur", "end+"}, {"price+", "none", "end+"},
	}, sums("account+", "units", "units+"), sums("price+", "price", "end+"), costs("{", "}"), costs("{{", "}}"))
}

// model tells by steps what Posting is to tell.
type model map[[2]string]string

// newModel makes one.
func newModel() model {
	m := model{}
	for _, s := range steps() {
		m[[2]string{s.from, s.by}] = s.to
	}
	return m
}

// sort answers which sort of word w is.
func sort(w api.Token) string {
	switch {
	case w.Kind == api.TkSign:
		return w.Text
	case w.Kind == api.TkCur && w.Text == "":
		return "none"
	case w.Kind == api.TkText && w.Text == "":
		return "empty"
	}
	return map[int]string{api.TkDate: "day", api.TkAccount: "account", api.TkCur: "cur", api.TkNumber: "number", api.TkText: "text", api.TkTag: "tag", api.TkLink: "link", api.TkWord: "word", api.TkKey: "key"}[w.Kind]
}

// posting answers the place of the first word that can't stand where it does, and the error; or how many words there are.
func (m model) posting(l []api.Token) (int, api.Errno) {
	at := ""
	for place, w := range l {
		to, there := m[[2]string{at, sort(w)}]
		if !there {
			return place, api.ErrForm
		}
		at = to
	}
	if !strings.HasSuffix(at, "+") {
		return len(l), api.ErrShort
	}
	return len(l), api.OK
}

// told answers the posting that l says, of which nothing is wrong.
func told(l []api.Token) api.Posting {
	p := api.Posting{Pos: l[0].Pos}
	if l[0].Kind == api.TkSign {
		p.Flag = l[0].Text
	}
	for place, w := range l {
		switch {
		case w.Kind == api.TkAccount:
			p.Account = w.Text
			p.Units, _, _ = amount.Units(l, place+1)
		case w.Kind == api.TkSign && strings.Contains(w.Text, "{"):
			p.Cost, _, _ = amount.Cost(l, place)
		case w.Kind == api.TkSign && strings.Contains(w.Text, "@"):
			p.Price, _, _ = amount.Price(l, place)
		}
	}
	return p
}

// isPosting checks what Posting tells of l, and what it tells of its text then; it tells whether l is a posting.
func isPosting(t *testing.T, m model, l []api.Token) bool {
	t.Helper()
	place, err := m.posting(l)
	if err != api.OK {
		is(t, l, api.Posting{}, place, err)
		return false
	}
	p := told(l)
	is(t, l, p, place, api.OK)
	if !slices.ContainsFunc(l, func(w api.Token) bool { return sort(w) == "none" }) {
		readAgain(t, p)
	}
	return true
}

// readAgain checks that p is read again from its text, which then is the text again.
func readAgain(t *testing.T, p api.Posting) {
	t.Helper()
	text := body.PostingText(p)
	l := words(text)
	again, place, err := body.Posting(l)
	if err != api.OK || place != len(l) || !body.Same(p, again) || body.PostingText(again) != text {
		t.Fatalf("Posting of %s: %v, %d, %d, want %v", text, again, place, err, p)
	}
	again.Pos = p.Pos
	if !reflect.DeepEqual(plain(again), plain(p)) {
		t.Fatalf("Posting of %s: %v, want %v", text, again, p)
	}
}

// P16.1, P16.7: all short lists of words, behind words with which postings begin
func TestAllShortLists(t *testing.T) {
	m := newModel()
	kinds := append(words("* ! Assets:Bank USD 5 - , { }} @ @@ 2024-01-02 \"a\" \"\" #a ^a a: a"), api.Token{Kind: api.TkCur})
	read := 0
	for _, s := range []string{"", "Assets:Stock", "! Assets:Stock 5 ACME", "Assets:Stock ACME {", "* Assets:Stock 5 ACME {{", "Assets:Stock 5 ACME {{2024-01-02", "Assets:Stock ACME {} @"} {
		l := words(s)
		var grow func(more int)
		grow = func(more int) {
			if isPosting(t, m, l) {
				read++
			}
			if more == 0 {
				return
			}
			for _, w := range kinds {
				l = append(l, w)
				grow(more - 1)
				l = l[:len(l)-1]
			}
		}
		grow(4)
	}
	if read < 150 {
		t.Errorf("%d postings alone were read", read)
	}
}

// lines answers lines that are put together by steps, of which some have a word that is none of them.
func lines(times int) [][]api.Token {
	random := rand.New(rand.NewSource(16))
	of := map[string][]api.Token{}
	for _, w := range append(words("* ! ~ , + - { }{{}} @ @@ 2024-01-02 1999/12/31 0001-01-01 Assets:Bank Equity:Opening Income:X-1 USD EUR A'B 5 0 1,000.50 0.001 2.0 \"a\" \"b \\\"\\n\" \"\" #a ^a a a:"), api.Token{Kind: api.TkCur}) {
		of[sort(w)] = append(of[sort(w)], w)
	}
	all, from := steps(), map[string][]step{}
	for _, s := range all {
		from[s.from] = append(from[s.from], s)
	}
	made := make([][]api.Token, times)
	for i := range made {
		at := ""
		for range 1 + random.Intn(24) {
			next := from[at]
			if len(next) == 0 {
				break
			}
			s := next[random.Intn(len(next))]
			if random.Intn(60) == 0 {
				s.by = all[random.Intn(len(all))].by
			}
			sorts := of[s.by]
			w := sorts[random.Intn(len(sorts))]
			w.Pos = api.Pos{Line: i, Col: len(made[i])}
			made[i] = append(made[i], w)
			at = s.to
		}
	}
	return made
}

// P16.1, P16.7: longer lines
func TestLongerLists(t *testing.T) {
	m := newModel()
	read, whole := 0, 0
	for _, l := range lines(100_000) {
		if isPosting(t, m, l) {
			read++
			p, _, _ := body.Posting(l)
			if p.Flag != "" && p.Units.HasNum && p.Cost.HasNum && p.Price.HasNum {
				whole++
			}
		}
	}
	if read < 20_000 || whole < 150 {
		t.Errorf("%d postings alone were read, %d with all parts", read, whole)
	}
}

// P16.2
func TestMeta(t *testing.T) {
	tests := []struct {
		s    string
		want api.Meta
	}{
		{"a: \"b\"", api.Meta{Key: "a", Text: "b"}},
		{"  file-name:\"\" ; a remark", api.Meta{Key: "file-name"}},
		{"k2_x: \"a \\\"b\\\"\\n\\t\\\\\"", api.Meta{Key: "k2_x", Text: "a \"b\"\n\t\\"}},
		{"due: \"2024-01-02\"", api.Meta{Key: "due", Text: "2024-01-02"}},
		{"due: \"\xff;\"", api.Meta{Key: "due", Text: "\xff;"}},
	}
	for _, c := range tests {
		says(t, words(c.s), c.want, 2, api.OK)
	}
}

// P16.2: the first fault, and its word's place
func TestMetaFaults(t *testing.T) {
	tests := []struct {
		s     string
		place int
		want  api.Errno
	}{
		{"", 0, api.ErrShort}, {"a:", 1, api.ErrShort}, {"a \"b\"", 0, api.ErrForm}, {"\"a\"", 0, api.ErrForm}, {"\"a\" \"b\"", 0, api.ErrForm}, {"* a: \"b\"", 0, api.ErrForm}, {"Assets:Bank", 0, api.ErrForm}, {"#a \"b\"", 0, api.ErrForm},
		{"a: b", 1, api.ErrForm}, {"a: b: \"c\"", 1, api.ErrForm}, {"a: 5", 1, api.ErrForm}, {"a: 5 USD", 1, api.ErrForm}, {"a: 2024-01-02", 1, api.ErrForm}, {"a: #b", 1, api.ErrForm}, {"a: USD", 1, api.ErrForm}, {"a: -", 1, api.ErrForm}, {"a: Assets:Bank", 1, api.ErrForm},
		{"a: \"b\" \"c\"", 2, api.ErrForm}, {"a: \"b\" c", 2, api.ErrForm}, {"a: \"b\",", 2, api.ErrForm}, {"a: \"b\" c: \"d\"", 2, api.ErrForm}, {"a: \"b\" ; c\n", 2, api.OK},
	}
	for _, c := range tests {
		want := api.Meta{}
		if c.want == api.OK {
			want = api.Meta{Key: "a", Text: "b"}
		}
		says(t, words(c.s), want, c.place, c.want)
	}
}

// P16.2: all short lists of words of all kinds
func TestAllMeta(t *testing.T) {
	where := api.Pos{Line: 7, Col: 1}
	for first := -1; first < 12; first++ {
		for second := -1; second < 12; second++ {
			l := []api.Token{{Kind: first, Text: "a", Pos: where}, {Kind: second, Text: "b", Pos: where}, {Kind: second, Text: "c", Pos: where}}
			switch {
			case first != api.TkKey:
				says(t, l[:1], api.Meta{}, 0, api.ErrForm)
				says(t, l[:2], api.Meta{}, 0, api.ErrForm)
				says(t, l, api.Meta{}, 0, api.ErrForm)
			case second != api.TkText:
				says(t, l[:1], api.Meta{}, 1, api.ErrShort)
				says(t, l[:2], api.Meta{}, 1, api.ErrForm)
				says(t, l, api.Meta{}, 1, api.ErrForm)
			default:
				says(t, l[:1], api.Meta{}, 1, api.ErrShort)
				says(t, l[:2], api.Meta{Key: "a", Text: "b"}, 2, api.OK)
				says(t, l, api.Meta{}, 2, api.ErrForm)
			}
		}
	}
}

// P16.3, P16.7
func TestPostingText(t *testing.T) {
	for _, c := range examples() {
		want := c.text
		if want == "" {
			want = c.s
		}
		c.p.Pos, c.p.Meta = api.Pos{Line: 3, Col: 1}, []api.Meta{{Key: "a", Text: "b"}}
		if got := body.PostingText(c.p); got != want {
			t.Errorf("PostingText of %v: %q, want %q", c.p, got, want)
		}
		c.p.Meta = nil
		readAgain(t, c.p)
	}
}

// P16.3: what no line says
func TestOddPostingTexts(t *testing.T) {
	tests := []struct {
		p    api.Posting
		want string
	}{
		{api.Posting{}, ""},
		{api.Posting{Flag: "*"}, "* "},
		{api.Posting{Units: api.Units{Cur: "USD"}}, " USD"},
		{api.Posting{Flag: "!", Units: of("5", "USD")}, "!  5 USD"},
		{api.Posting{Flag: "P", Account: "Assets:Bank"}, "P Assets:Bank"},
		{api.Posting{Account: "\xff"}, "\xff"},
		{api.Posting{Account: "Assets:Bank", Units: of("5.0", "")}, "Assets:Bank 5.0 "},
		{api.Posting{Account: "Assets:Bank", Units: api.Units{Num: number("5"), Cur: "USD"}}, "Assets:Bank USD"},
		{api.Posting{Account: "Assets:Bank", Units: api.Units{Num: number("5")}}, "Assets:Bank"},
		{api.Posting{Account: "Assets:Bank", Cost: api.Cost{Has: true}, Price: api.Price{Has: true}}, "Assets:Bank {} @"},
		{api.Posting{Account: "Assets:Bank", Price: api.Price{Has: true, Total: true, Cur: "USD"}}, "Assets:Bank @@ USD"},
		{api.Posting{Account: "Assets:Bank", Cost: api.Cost{Total: true, HasNum: true, Num: number("5"), Cur: "USD", Label: "a"}, Price: api.Price{HasNum: true, Num: number("5"), Cur: "USD"}}, "Assets:Bank"},
		{api.Posting{Cost: api.Cost{Has: true, Total: true, Label: "a\n"}}, " {{\"a\\n\"}}"},
	}
	for _, c := range tests {
		if got := body.PostingText(c.p); got != c.want {
			t.Errorf("PostingText of %v: %q, want %q", c.p, got, c.want)
		}
	}
}

// P16.4, P16.7
func TestMetaText(t *testing.T) {
	tests := []struct {
		m    api.Meta
		want string
	}{
		{api.Meta{Key: "a", Text: "b"}, "a: \"b\""},
		{api.Meta{Key: "file-name"}, "file-name: \"\""},
		{api.Meta{Key: "k2_x", Text: "a \"b\"\n\t\\"}, "k2_x: \"a \\\"b\\\"\\n\\t\\\\\""},
		{api.Meta{Key: "due", Text: "\xff; \x00\r"}, "due: \"\xff; \x00\r\""},
		{api.Meta{Key: "a", Text: "b: \"c\""}, "a: \"b: \\\"c\\\"\""},
	}
	for _, c := range tests {
		got := body.MetaText(c.m)
		if got != c.want {
			t.Errorf("MetaText of %v: %q, want %q", c.m, got, c.want)
		}
		says(t, words(got), c.m, 2, api.OK)
	}
	for i := range 256 {
		for j := range 256 {
			m := api.Meta{Key: "a", Text: string([]byte{byte(i), byte(j)})}
			says(t, words(body.MetaText(m)), m, 2, api.OK)
		}
	}
	if got := body.MetaText(api.Meta{}); got != ": \"\"" {
		t.Errorf("MetaText of nothing: %q", got)
	}
	if got := body.MetaText(api.Meta{Key: "A \"b\"", Text: "c"}); got != "A \"b\": \"c\"" {
		t.Errorf("MetaText of a key that is none: %q", got)
	}
}

// P16.5
func TestSameMeta(t *testing.T) {
	a, b, c := api.Meta{Key: "a", Text: "b"}, api.Meta{Key: "a", Text: "c"}, api.Meta{Key: "b", Text: "b"}
	all := [][]api.Meta{nil, {a}, {b}, {c}, {a, b}, {b, a}, {a, a}, {a, b, c}, {a, c, b}, {{}}, {{}, {}}, {{Key: "a"}}, {{Text: "b"}}, {{Key: "ab"}}, {{Key: "A", Text: "b"}}, {{Key: "b", Text: "a"}}}
	for i := range all {
		for j := range all {
			if got := body.SameMeta(all[i], all[j]); got != (i == j) {
				t.Errorf("SameMeta of %v and %v: %v", all[i], all[j], got)
			}
		}
		if !body.SameMeta(all[i], slices.Clone(all[i])) || !body.SameMeta(append([]api.Meta{}, all[i]...), all[i]) {
			t.Errorf("SameMeta tells %v from itself", all[i])
		}
	}
}

// others answers p with one thing changed, each in turn.
func others(p api.Posting) []api.Posting {
	var all []api.Posting
	add := func(change func(p *api.Posting)) {
		other := p
		change(&other)
		all = append(all, other)
	}
	add(func(p *api.Posting) { p.Cost.Date.Year++ })
	add(func(p *api.Posting) { p.Cost.Date.Month++ })
	add(func(p *api.Posting) { p.Cost.Date.Day++ })
	for _, field := range []func(p *api.Posting) *string{
		func(p *api.Posting) *string { return &p.Flag }, func(p *api.Posting) *string { return &p.Account }, func(p *api.Posting) *string { return &p.Units.Cur }, func(p *api.Posting) *string { return &p.Cost.Cur }, func(p *api.Posting) *string { return &p.Cost.Label }, func(p *api.Posting) *string { return &p.Price.Cur },
	} {
		add(func(p *api.Posting) { *field(p) += "x" })
		add(func(p *api.Posting) { *field(p) = strings.ToLower(*field(p)) + " " })
	}
	for _, field := range []func(p *api.Posting) *api.Dec{
		func(p *api.Posting) *api.Dec { return &p.Units.Num }, func(p *api.Posting) *api.Dec { return &p.Cost.Num }, func(p *api.Posting) *api.Dec { return &p.Price.Num },
	} {
		add(func(p *api.Posting) { *field(p) = number("77.5") })
		add(func(p *api.Posting) { field(p).Scale++ })
		if value := *field(&p); len(value.Coef) > 0 {
			add(func(p *api.Posting) { field(p).Neg = !value.Neg })
			add(func(p *api.Posting) { *field(p) = number(dectext.Text(api.Dec{Coef: value.Coef}) + "0") })
		}
	}
	for _, field := range []func(p *api.Posting) *bool{
		func(p *api.Posting) *bool { return &p.Units.HasNum }, func(p *api.Posting) *bool { return &p.Cost.Has }, func(p *api.Posting) *bool { return &p.Cost.Total }, func(p *api.Posting) *bool { return &p.Cost.HasNum }, func(p *api.Posting) *bool { return &p.Price.Has }, func(p *api.Posting) *bool { return &p.Price.Total }, func(p *api.Posting) *bool { return &p.Price.HasNum },
	} {
		add(func(p *api.Posting) { *field(p) = !*field(p) })
	}
	add(func(p *api.Posting) { p.Meta = append(slices.Clone(p.Meta), api.Meta{Key: "x", Text: "y"}) })
	if len(p.Meta) > 1 {
		add(func(p *api.Posting) { p.Meta = p.Meta[1:] })
		add(func(p *api.Posting) { p.Meta = []api.Meta{p.Meta[1], p.Meta[0]} })
		add(func(p *api.Posting) { p.Meta = []api.Meta{{Key: p.Meta[0].Key}, p.Meta[1]} })
		add(func(p *api.Posting) { p.Meta = []api.Meta{p.Meta[0], {Text: p.Meta[1].Text}} })
	}
	return all
}

// P16.6
func TestSame(t *testing.T) {
	all := examples()
	two := []api.Meta{{Key: "a", Text: "b"}, {Key: "c", Text: "d"}}
	for i, c := range all {
		for j, b := range all {
			if got, want := body.Same(c.p, b.p), body.PostingText(c.p) == body.PostingText(b.p); got != want {
				t.Errorf("Same of %d and %d, %v and %v: %v", i, j, c.p, b.p, got)
			}
		}
		for _, c.p.Meta = range [][]api.Meta{nil, two[:1], two} {
			alike := plain(c.p)
			alike.Pos = api.Pos{Line: 3, Col: 9}
			if !body.Same(c.p, c.p) || !body.Same(c.p, alike) || !body.Same(alike, c.p) {
				t.Errorf("Same tells %v from itself", c.p)
			}
			for _, other := range others(c.p) {
				if body.Same(c.p, other) || body.Same(other, c.p) {
					t.Errorf("Same does not tell %v from %v", c.p, other)
				}
			}
		}
	}
}

// R3, R4: what is handed in stays as it was, and what is answered is new memory.
func TestMemory(t *testing.T) {
	for _, c := range examples() {
		room := append(words(c.s), words("USD , @ \"a\" 5")...)
		l := room[:len(room)-5]
		before := slices.Clone(room)
		c.p.Pos = api.Pos{Line: 7, Col: 1}
		for range 2 {
			is(t, l, c.p, len(l), api.OK)
			p, _, _ := body.Posting(l)
			clear(p.Cost.Num.Coef)
			if !slices.Equal(p.Units.Num.Coef, c.p.Units.Num.Coef) || !slices.Equal(p.Price.Num.Coef, c.p.Price.Num.Coef) {
				t.Errorf("what Posting tells of %s shares its digits", c.s)
			}
			clear(p.Units.Num.Coef)
			if !slices.Equal(p.Price.Num.Coef, c.p.Price.Num.Coef) {
				t.Errorf("what Posting tells of %s shares its digits", c.s)
			}
			clear(p.Price.Num.Coef)
		}
		if !slices.Equal(room, before) {
			t.Errorf("Posting changed its words %s", c.s)
		}
	}
	room := words("a: \"b\" \"c\" d: 5")
	before := slices.Clone(room)
	for range 2 {
		says(t, room[:2], api.Meta{Key: "a", Text: "b"}, 2, api.OK)
		says(t, room[:1], api.Meta{}, 1, api.ErrShort)
	}
	if !slices.Equal(room, before) {
		t.Error("Meta changed its words")
	}
	keepsPostings(t)
}

// keepsPostings checks that texts are told, and postings held against each other, without changing them or the room behind their lists.
func keepsPostings(t *testing.T) {
	t.Helper()
	num := func() api.Dec { return api.Dec{Coef: append(make(api.Nat, 0, 9), 5, 7), Scale: 2} }
	p := api.Posting{Flag: "*", Account: "Assets:Bank", Units: api.Units{HasNum: true, Num: num(), Cur: "USD"}, Cost: api.Cost{Has: true, HasNum: true, Num: num(), Cur: "EUR"}, Price: api.Price{Has: true, HasNum: true, Num: num(), Cur: "GBP"}, Meta: make([]api.Meta, 2, 9)}
	behind := plain(p)
	text := body.PostingText(p)
	if !body.Same(p, behind) || !body.SameMeta(p.Meta, behind.Meta) || !reflect.DeepEqual(plain(p), behind) || body.PostingText(p) != text {
		t.Error("a posting was changed")
	}
	for _, coef := range []api.Nat{p.Units.Num.Coef, p.Cost.Num.Coef, p.Price.Num.Coef} {
		if slices.Max(coef[2:9]) != 0 {
			t.Error("the room behind a number was changed")
		}
	}
	if slices.ContainsFunc(p.Meta[:9], func(m api.Meta) bool { return m != api.Meta{} }) {
		t.Error("the room behind a list was changed")
	}
}

// R1: whatever is handed in, calls end without a panic.
func TestOddArguments(t *testing.T) {
	texts := []string{"", "*", "!", ",", "{", "}}", "@", "-", "(", "/", "5", "5.", "\xff", "USD", "2024-01-02", "2023-02-29", "a\"\n"}
	for kind := -1; kind < 12; kind++ {
		for _, s := range texts {
			for _, more := range texts {
				l := []api.Token{{Kind: kind, Text: s, Pos: api.Pos{Line: math.MinInt, Col: math.MaxInt}}, {Kind: api.TkAccount, Text: more}, {Kind: kind, Text: more}, {Kind: api.TkNumber, Text: s}, {Kind: kind, Text: s}, {Kind: api.TkSign, Text: more}, {Kind: kind, Text: more}}
				for from := range 3 {
					for to := from; to <= len(l); to++ {
						odd(t, l[from:to])
					}
				}
			}
		}
	}
	for _, num := range []api.Dec{{}, {Scale: math.MinInt}, {Scale: math.MaxInt}, {Neg: true, Coef: api.Nat{0, math.MaxUint32, 0}, Scale: -3}} {
		p := api.Posting{Flag: "\xff", Units: api.Units{HasNum: true, Num: num}, Cost: api.Cost{Has: true, HasNum: true, Num: num, Date: day(math.MaxInt, -1, math.MinInt)}, Price: api.Price{Has: true, HasNum: true, Num: num}}
		body.PostingText(p)
		body.Same(p, api.Posting{})
		body.Same(p, p)
	}
}

// odd checks of words that need not be any line's that answers and errors exclude each other.
func odd(t *testing.T, l []api.Token) {
	t.Helper()
	p, place, err := body.Posting(l)
	if place < 0 || place > len(l) || err != api.OK && !reflect.DeepEqual(p, api.Posting{}) || err == api.OK && place != len(l) {
		t.Fatalf("Posting of %s: %v, %d, %d", written(l), p, place, err)
	}
	body.PostingText(p)
	m, place, err := body.Meta(l)
	if place < 0 || place > len(l) || err != api.OK && m != (api.Meta{}) || err == api.OK && place != len(l) {
		t.Fatalf("Meta of %s: %v, %d, %d", written(l), m, place, err)
	}
	body.MetaText(m)
}

// P16.1: long sums, and long lists of what is said
func TestLongLines(t *testing.T) {
	const times = 200_000
	one, plus := api.Token{Kind: api.TkNumber, Text: "1"}, api.Token{Kind: api.TkSign, Text: "+"}
	l := words("Assets:Bank")
	for range times {
		l = append(l, one, plus)
	}
	is(t, l, api.Posting{}, len(l), api.ErrShort)
	l = append(l[:len(l)-1], words("USD @ 5 EUR")...)
	is(t, l, api.Posting{Account: "Assets:Bank", Units: of("200000", "USD"), Price: at("5", "EUR"), Pos: api.Pos{Line: 7, Col: 1}}, len(l), api.OK)
	many := make([]api.Meta, times)
	for i := range many {
		many[i].Key = fmt.Sprint("k", i)
	}
	if !body.SameMeta(many, slices.Clone(many)) || body.SameMeta(many, many[:times-1]) {
		t.Error("SameMeta does not tell long lists apart")
	}
}
