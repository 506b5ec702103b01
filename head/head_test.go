package head_test

import (
	"math"
	"math/rand"
	"reflect"
	"slices"
	"strings"
	"testing"

	"quittance/amount"
	"quittance/api"
	"quittance/date"
	"quittance/dectext"
	"quittance/expr"
	"quittance/head"
	"quittance/lex"
)

// number answers the decimal that is written as s.
func number(s string) api.Dec {
	d, err := dectext.Parse(s)
	if err != api.OK {
		panic(s)
	}
	return d
}

// of makes an amount.
func of(num, cur string) api.Amount { return api.Amount{Num: number(num), Cur: cur} }

// day makes a day.
func day(year, month, n int) api.Date { return api.Date{Year: year, Month: month, Day: n} }

// words answers the words of s, in line 7.
func words(s string) []api.Token {
	l, fault := lex.Words(api.Line{No: 7, Text: s})
	if fault != (api.Fault{}) {
		panic(s)
	}
	return l
}

// written answers words as they are written, with blanks between.
func written(l []api.Token) string {
	var all []string
	for _, w := range l {
		all = append(all, lex.Text(w))
	}
	return strings.Join(all, " ")
}

// plain answers d so that lists that are nil and empty ones are alike.
func plain(d api.Directive) api.Directive {
	d.Curs, d.Tags, d.Links = append([]string{}, d.Curs...), append([]string{}, d.Tags...), append([]string{}, d.Links...)
	d.Meta, d.Posts = append([]api.Meta{}, d.Meta...), append([]api.Posting{}, d.Posts...)
	d.Amount.Num.Coef, d.Tol.Coef = append(api.Nat{}, d.Amount.Num.Coef...), append(api.Nat{}, d.Tol.Coef...)
	return d
}

// is checks what Head tells of l.
func is(t *testing.T, l []api.Token, want api.Directive, wantPlace int, wantErr api.Errno) {
	t.Helper()
	got, place, err := head.Head(l)
	if !reflect.DeepEqual(plain(got), plain(want)) || place != wantPlace || err != wantErr {
		t.Fatalf("Head of %s: %v, %d, %d, want %v, %d, %d", written(l), got, place, err, want, wantPlace, wantErr)
	}
}

// P15.1
func TestMethods(t *testing.T) {
	all := []string{"STRICT", "FIFO", "LIFO", "AVERAGE", "NONE"}
	numbers := []int{api.BookStrict, api.BookFifo, api.BookLifo, api.BookAverage, api.BookNone}
	for i, s := range all {
		if head.Method(s) != numbers[i] || head.MethodWord(numbers[i]) != s || numbers[i] != i {
			t.Errorf("%s: %d, and %d: %q", s, head.Method(s), i, head.MethodWord(i))
		}
	}
	for _, s := range []string{"", "strict", "Fifo", "FIFO ", " FIFO", "FIF", "FIFOO", "FIFO\x00", "\"FIFO\"", "STRICTFIFO", "0", "HIFO", "-1", "\xff"} {
		if got := head.Method(s); got != -1 {
			t.Errorf("Method of %q: %d", s, got)
		}
	}
	for _, n := range []int{-1, 5, 6, -5, 256, math.MinInt, math.MaxInt} {
		if got := head.MethodWord(n); got != "" {
			t.Errorf("MethodWord of %d: %q", n, got)
		}
	}
}

// example is a line, the directive that it is, and how that is written.
type example struct {
	s    string
	d    api.Directive
	text string
}

// examples answers lines of all kinds.
func examples() []example {
	first := day(2024, 1, 2)
	bank, stock := "Assets:Bank", "Assets:Stock"
	return append([]example{
		{"option \"title\" \"My books\"", api.Directive{Kind: api.DoOption, Name: "title", Text: "My books"}, "option \"title\" \"My books\""},
		{"option\"\"\"\\\"\\n\\t\\\\\"", api.Directive{Kind: api.DoOption, Text: "\"\n\t\\"}, "option \"\" \"\\\"\\n\\t\\\\\""},
		{"2024-01-02 open Assets:Bank", api.Directive{Kind: api.DoOpen, Date: first, Account: bank}, ""},
		{"2024/01/02 open Assets:Bank USD", api.Directive{Kind: api.DoOpen, Date: first, Account: bank, Curs: []string{"USD"}}, "2024-01-02 open Assets:Bank USD"},
		{"2024-01-02 open Assets:Bank USD,EUR , VACHR-2024.1 \"NONE\" ; a remark", api.Directive{Kind: api.DoOpen, Date: first, Account: bank, Curs: []string{"USD", "EUR", "VACHR-2024.1"}, Book: api.BookNone}, "2024-01-02 open Assets:Bank USD, EUR, VACHR-2024.1 \"NONE\""},
		{"2024-01-02 open Assets:Bank USD, USD", api.Directive{Kind: api.DoOpen, Date: first, Account: bank, Curs: []string{"USD", "USD"}}, ""},
		{"2024-01-02 open Assets:Bank \"AVERAGE\"", api.Directive{Kind: api.DoOpen, Date: first, Account: bank, Book: api.BookAverage}, ""},
		{"2024-01-02 open Assets:Bank USD \"FIFO\"", api.Directive{Kind: api.DoOpen, Date: first, Account: bank, Curs: []string{"USD"}, Book: api.BookFifo}, ""},
		{"2024-01-02 open Assets:Bank \"LIFO\"", api.Directive{Kind: api.DoOpen, Date: first, Account: bank, Book: api.BookLifo}, ""},
		{"2024-01-02 open Assets:Bank \"STRICT\"", api.Directive{Kind: api.DoOpen, Date: first, Account: bank}, "2024-01-02 open Assets:Bank"},
		{"2024-01-02 close Assets:Bank", api.Directive{Kind: api.DoClose, Date: first, Account: bank}, ""},
		{"2024-01-02 commodity USD", api.Directive{Kind: api.DoCommodity, Date: first, Curs: []string{"USD"}}, ""},
		{"2024-01-02 price ACME 12.50 USD", api.Directive{Kind: api.DoPrice, Date: first, Curs: []string{"ACME"}, Amount: of("12.50", "USD")}, ""},
		{"2024-01-02 price ACME -(1 + 2) / 4 USD", api.Directive{Kind: api.DoPrice, Date: first, Curs: []string{"ACME"}, Amount: of("-0.75", "USD")}, "2024-01-02 price ACME -0.75 USD"},
		{"2024-01-02 pad Assets:Bank Equity:Opening", api.Directive{Kind: api.DoPad, Date: first, Account: bank, Other: "Equity:Opening"}, ""},
		{"2024-01-02 note Assets:Stock \"split 2:1\"", api.Directive{Kind: api.DoNote, Date: first, Account: stock, Text: "split 2:1"}, ""},
		{"2024-01-02 note Assets:Stock \"\"", api.Directive{Kind: api.DoNote, Date: first, Account: stock}, ""},
		{"2024-01-02 balance Assets:Bank 10.00 ~ 0.01 USD", api.Directive{Kind: api.DoBalance, Date: first, Account: bank, Amount: of("10.00", "USD"), HasTol: true, Tol: number("0.01")}, ""},
		{"2024-01-02 balance Assets:Bank -1,000.5 USD", api.Directive{Kind: api.DoBalance, Date: first, Account: bank, Amount: of("-1000.5", "USD")}, "2024-01-02 balance Assets:Bank -1000.5 USD"},
		{"2024-01-02 balance Assets:Bank 1 - 1 * 2.0~-(2 - 3) USD", api.Directive{Kind: api.DoBalance, Date: first, Account: bank, Amount: of("-1.0", "USD"), HasTol: true, Tol: number("1")}, "2024-01-02 balance Assets:Bank -1.0 ~ 1 USD"},
		{"2024-01-02 balance Assets:Bank 0 ~ 0 USD", api.Directive{Kind: api.DoBalance, Date: first, Account: bank, Amount: of("0", "USD"), HasTol: true}, ""},
		{"2024-01-02 balance Assets:Bank -0.00 ~ -0.00 USD", api.Directive{Kind: api.DoBalance, Date: first, Account: bank, Amount: of("0.00", "USD"), HasTol: true, Tol: number("0.00")}, "2024-01-02 balance Assets:Bank 0.00 ~ 0.00 USD"},
	}, transactions()...)
}

// transactions answers lines of transactions.
func transactions() []example {
	made := func(flag, payee, narration string, tags, links []string) api.Directive {
		return api.Directive{Kind: api.DoTxn, Date: day(2024, 1, 2), Flag: flag, Payee: payee, Narration: narration, Tags: tags, Links: links}
	}
	return []example{
		{"2024-01-02 *", made("*", "", "", nil, nil), "2024-01-02 * \"\""},
		{"2024-01-02 !", made("!", "", "", nil, nil), "2024-01-02 ! \"\""},
		{"2024-01-02 txn", made("*", "", "", nil, nil), "2024-01-02 * \"\""},
		{"2024-01-02 txn \"Bread\"", made("*", "", "Bread", nil, nil), "2024-01-02 * \"Bread\""},
		{"2024-01-02 ! \"Baker\" \"Bread\"", made("!", "Baker", "Bread", nil, nil), ""},
		{"2024-01-02 * \"Baker\" \"\"", made("*", "Baker", "", nil, nil), ""},
		{"2024-01-02 * \"\" \"Bread\"", made("*", "", "Bread", nil, nil), "2024-01-02 * \"Bread\""},
		{"2024-01-02 * \"\" \"\"", made("*", "", "", nil, nil), "2024-01-02 * \"\""},
		{"2024-01-02 ! \"Bread\" #food #trip/2024", made("!", "", "Bread", []string{"food", "trip/2024"}, nil), ""},
		{"2024-01-02 ! ^b #z ^a #y", made("!", "", "", []string{"z", "y"}, []string{"b", "a"}), "2024-01-02 ! \"\" #z #y ^b ^a"},
		{"2024-01-02 txn \"a\" \"b\" #x ^x #y #x ^x ^y #y #X", made("*", "a", "b", []string{"x", "y", "X"}, []string{"x", "y"}), "2024-01-02 * \"a\" \"b\" #x #y #X ^x ^y"},
	}
}

// P15.2: what is read to its end
func TestHead(t *testing.T) {
	for _, c := range examples() {
		l := words(c.s)
		c.d.Pos = api.Pos{Line: 7, Col: 1}
		is(t, l, c.d, len(l), api.OK)
		l = words("\t " + c.s)
		c.d.Pos.Col = 3
		is(t, l, c.d, len(l), api.OK)
	}
}

// P15.2: the word of the kind is a word or a sign of that text, but option is a word.
func TestWordsAndSigns(t *testing.T) {
	for _, c := range examples() {
		l := words(c.s)
		at := min(c.d.Date.Year, 1)
		for kind := -1; kind < 12; kind++ {
			l[at].Kind = kind
			switch {
			case kind == api.TkWord || kind == api.TkSign && at == 1:
				c.d.Pos = api.Pos{Line: 7, Col: 1}
				is(t, l, c.d, len(l), api.OK)
			default:
				is(t, l, api.Directive{}, at, api.ErrForm)
			}
		}
	}
}

// P15.2: the first fault, and its word's place
func TestHeadFaults(t *testing.T) {
	tests := []struct {
		s     string
		place int
		want  api.Errno
	}{
		{"", 0, api.ErrShort}, {"option", 1, api.ErrShort}, {"option \"a\"", 2, api.ErrShort}, {"option \"a\" \"b\" \"c\"", 3, api.ErrForm}, {"option a \"b\"", 1, api.ErrForm}, {"option \"a\" USD", 2, api.ErrForm}, {"option \"a\" \"b\" #c", 3, api.ErrForm}, {"option: \"a\" \"b\"", 0, api.ErrForm}, {"options \"a\" \"b\"", 0, api.ErrForm},
		{"open Assets:Bank", 0, api.ErrForm}, {"* \"a\"", 0, api.ErrForm}, {"txn", 0, api.ErrForm}, {"5 open Assets:Bank", 0, api.ErrForm}, {"\"2024-01-02\" open Assets:Bank", 0, api.ErrForm}, {"Assets:Bank", 0, api.ErrForm}, {"#a", 0, api.ErrForm},
		{"2024-01-02", 1, api.ErrShort}, {"2024-01-02 2024-01-03", 1, api.ErrForm}, {"2024-01-02 opens Assets:Bank", 1, api.ErrForm}, {"2024-01-02 option \"a\" \"b\"", 1, api.ErrForm}, {"2024-01-02 \"open\" Assets:Bank", 1, api.ErrForm}, {"2024-01-02 open: Assets:Bank", 1, api.ErrForm}, {"2024-01-02 ~", 1, api.ErrForm}, {"2024-01-02 + 5", 1, api.ErrForm}, {"2024-01-02 pushtag #a", 1, api.ErrForm}, {"2024-01-02 USD", 1, api.ErrForm}, {"2024-01-02 #txn", 1, api.ErrForm}, {"2024-01-02 P \"a\"", 1, api.ErrForm},

		{"2024-01-02 open", 2, api.ErrShort}, {"2024-01-02 open USD", 2, api.ErrForm}, {"2024-01-02 open Assets:Bank ,", 3, api.ErrForm}, {"2024-01-02 open Assets:Bank, USD", 3, api.ErrForm}, {"2024-01-02 open Assets:Bank USD,", 5, api.ErrShort}, {"2024-01-02 open Assets:Bank USD, \"FIFO\"", 5, api.ErrForm}, {"2024-01-02 open Assets:Bank USD EUR", 4, api.ErrForm}, {"2024-01-02 open Assets:Bank USD,,EUR", 5, api.ErrForm}, {"2024-01-02 open Assets:Bank USD, EUR,", 7, api.ErrShort}, {"2024-01-02 open Assets:Bank \"FIFO\" \"FIFO\"", 4, api.ErrForm}, {"2024-01-02 open Assets:Bank \"fifo\"", 3, api.ErrForm}, {"2024-01-02 open Assets:Bank \"\"", 3, api.ErrForm}, {"2024-01-02 open Assets:Bank USD \"FIFO\" EUR", 5, api.ErrForm}, {"2024-01-02 open Assets:Bank USD \"X\" EUR", 4, api.ErrForm}, {"2024-01-02 open Assets:Bank \"FIFO\" USD", 4, api.ErrForm}, {"2024-01-02 open Assets:Bank FIFO LIFO", 4, api.ErrForm}, {"2024-01-02 open Assets:Bank 5 USD", 3, api.ErrForm}, {"2024-01-02 open Assets:Bank Assets:Giro", 3, api.ErrForm}, {"2024-01-02 open Assets:Bank #a", 3, api.ErrForm},
		{"2024-01-02 close", 2, api.ErrShort}, {"2024-01-02 close USD", 2, api.ErrForm}, {"2024-01-02 close Assets:Bank USD", 3, api.ErrForm}, {"2024-01-02 close Assets:Bank Assets:Bank", 3, api.ErrForm}, {"2024-01-02 close \"Assets:Bank\"", 2, api.ErrForm},
		{"2024-01-02 commodity", 2, api.ErrShort}, {"2024-01-02 commodity Assets:Bank", 2, api.ErrForm}, {"2024-01-02 commodity USD,", 3, api.ErrForm}, {"2024-01-02 commodity USD EUR", 3, api.ErrForm}, {"2024-01-02 commodity 5 USD", 2, api.ErrForm},
		{"2024-01-02 price", 2, api.ErrShort}, {"2024-01-02 price USD", 3, api.ErrShort}, {"2024-01-02 price USD 5", 4, api.ErrShort}, {"2024-01-02 price USD 5 EUR EUR", 5, api.ErrForm}, {"2024-01-02 price 5 EUR", 2, api.ErrForm}, {"2024-01-02 price USD EUR", 3, api.ErrForm}, {"2024-01-02 price USD 5 + EUR", 5, api.ErrForm}, {"2024-01-02 price USD 5 / 0 EUR", 4, api.ErrZero}, {"2024-01-02 price USD (5 EUR", 5, api.ErrForm}, {"2024-01-02 price USD (5", 5, api.ErrShort}, {"2024-01-02 price USD 5 \"EUR\"", 4, api.ErrForm}, {"2024-01-02 price USD 5 ~ 1 EUR", 4, api.ErrForm}, {"2024-01-02 price USD " + strings.Repeat("-", 65) + "5 EUR", 67, api.ErrDeep}, {"2024-01-02 price USD, 5 EUR", 3, api.ErrForm},
		{"2024-01-02 pad", 2, api.ErrShort}, {"2024-01-02 pad Assets:Bank", 3, api.ErrShort}, {"2024-01-02 pad Assets:Bank USD", 3, api.ErrForm}, {"2024-01-02 pad Assets:Bank, Assets:Giro", 3, api.ErrForm}, {"2024-01-02 pad USD Assets:Bank", 2, api.ErrForm}, {"2024-01-02 pad Assets:Bank Assets:Giro Assets:Save", 4, api.ErrForm}, {"2024-01-02 pad Assets:Bank Assets:Giro USD", 4, api.ErrForm},
		{"2024-01-02 note", 2, api.ErrShort}, {"2024-01-02 note Assets:Bank", 3, api.ErrShort}, {"2024-01-02 note \"a\" Assets:Bank", 2, api.ErrForm}, {"2024-01-02 note Assets:Bank a", 3, api.ErrForm}, {"2024-01-02 note Assets:Bank \"a\" \"b\"", 4, api.ErrForm}, {"2024-01-02 note Assets:Bank \"a\" #b", 4, api.ErrForm},

		{"2024-01-02 balance", 2, api.ErrShort}, {"2024-01-02 balance 5 USD", 2, api.ErrForm}, {"2024-01-02 balance Assets:Bank", 3, api.ErrShort}, {"2024-01-02 balance Assets:Bank USD", 3, api.ErrForm}, {"2024-01-02 balance Assets:Bank 5", 4, api.ErrShort}, {"2024-01-02 balance Assets:Bank 5 USD EUR", 5, api.ErrForm}, {"2024-01-02 balance Assets:Bank 5 \"USD\"", 4, api.ErrForm}, {"2024-01-02 balance Assets:Bank 5 USD ~ 1", 5, api.ErrForm}, {"2024-01-02 balance Assets:Bank ~ 1 USD", 3, api.ErrForm}, {"2024-01-02 balance Assets:Bank 1 / 0 ~ -1 USD", 4, api.ErrZero}, {"2024-01-02 balance Assets:Bank 1 +", 5, api.ErrShort}, {"2024-01-02 balance Assets:Bank " + strings.Repeat("(", 65), 67, api.ErrDeep},
		{"2024-01-02 balance Assets:Bank 5 ~", 5, api.ErrShort}, {"2024-01-02 balance Assets:Bank 5 ~ USD", 5, api.ErrForm}, {"2024-01-02 balance Assets:Bank 5 ~ 1", 6, api.ErrShort}, {"2024-01-02 balance Assets:Bank 5 ~ 1 ~ 1 USD", 6, api.ErrForm}, {"2024-01-02 balance Assets:Bank 5 ~~ 1 USD", 5, api.ErrForm}, {"2024-01-02 balance Assets:Bank 5 ~ 2 / (1 - 1) USD", 6, api.ErrZero}, {"2024-01-02 balance Assets:Bank 5 ~ 1 USD USD", 7, api.ErrForm}, {"2024-01-02 balance Assets:Bank 5 ~ " + strings.Repeat("+", 65) + "1 USD", 69, api.ErrDeep},
		{"2024-01-02 balance Assets:Bank 5 ~ -1 USD", 6, api.ErrForm}, {"2024-01-02 balance Assets:Bank 5 ~ -1", 6, api.ErrForm}, {"2024-01-02 balance Assets:Bank 5 ~ -0.001 #a", 6, api.ErrForm}, {"2024-01-02 balance Assets:Bank 5 ~ 1 * 2 - 3 USD", 9, api.ErrForm}, {"2024-01-02 balance Assets:Bank 5 ~ (1 - 2) USD", 9, api.ErrForm},

		{"2024-01-02 * \"a\" \"b\" \"c\"", 4, api.ErrForm}, {"2024-01-02 txn #a \"b\"", 3, api.ErrForm}, {"2024-01-02 ! \"a\" ^a \"b\"", 4, api.ErrForm}, {"2024-01-02 * \"a\" USD", 3, api.ErrForm}, {"2024-01-02 * Assets:Bank", 2, api.ErrForm}, {"2024-01-02 * \"a\", \"b\"", 3, api.ErrForm}, {"2024-01-02 * #a, #b", 3, api.ErrForm}, {"2024-01-02 * !", 2, api.ErrForm}, {"2024-01-02 txn *", 2, api.ErrForm}, {"2024-01-02 * txn", 2, api.ErrForm}, {"2024-01-02 * #a ^b 5", 4, api.ErrForm}, {"2024-01-02 * a: \"b\"", 2, api.ErrForm}, {"2024-01-02 * \"a\" 2024-01-02", 3, api.ErrForm},
	}
	for _, c := range tests {
		is(t, words(c.s), api.Directive{}, c.place, c.want)
	}
}

// P15.2: a day that is none is wrong ahead of all that follows.
func TestNoDay(t *testing.T) {
	for _, c := range examples() {
		for _, text := range []string{"2023-02-29", "2024-13-01", "0000-01-01", "2024-01-2", "2024-01/02", "", "open", "\xff"} {
			l := words(c.s)
			l[0] = api.Token{Kind: api.TkDate, Text: text}
			for n := 1; n <= len(l); n++ {
				is(t, l[:n], api.Directive{}, 0, api.ErrForm)
			}
		}
	}
}

// P15.2: words that end too soon are short, whatever lies in the room behind.
func TestCutShort(t *testing.T) {
	least := map[int]int{api.DoOption: 3, api.DoOpen: 3, api.DoClose: 3, api.DoCommodity: 3, api.DoPad: 4, api.DoNote: 4, api.DoTxn: 2}
	for _, c := range examples() {
		l := words(c.s)
		n, there := least[c.d.Kind]
		if !there {
			n = len(l)
		}
		for size := range n {
			is(t, l[:size], api.Directive{}, size, api.ErrShort)
		}
	}
}

// step is from where which sort of word leads to where.
type step struct {
	from string
	by   string
	to   string
}

// steps answers how first lines go on, word by word. Arithmetic has no ( here; "end" and all that have a + at their end may be the last ones.
func steps() []step {
	return []step{
		{"", "option", "option"}, {"option", "text", "name"}, {"option", "method", "name"}, {"name", "text", "end"}, {"name", "method", "end"}, {"", "day", "day"},
		{"day", "open", "open"}, {"open", "account", "opened+"}, {"opened+", "cur", "cur+"}, {"opened+", "method", "end"}, {"cur+", ",", "comma"}, {"cur+", "method", "end"}, {"comma", "cur", "cur+"},
		{"day", "close", "close"}, {"close", "account", "end"}, {"day", "commodity", "commodity"}, {"commodity", "cur", "end"},
		{"day", "pad", "pad"}, {"pad", "account", "from"}, {"from", "account", "end"}, {"day", "note", "note"}, {"note", "account", "noted"}, {"noted", "text", "end"}, {"noted", "method", "end"},
		{"day", "price", "price"}, {"price", "cur", "sum"}, {"sum", "+", "sum"}, {"sum", "-", "sum"}, {"sum", "number", "sums"}, {"sums", "+", "sum"}, {"sums", "-", "sum"}, {"sums", "*", "sum"}, {"sums", "cur", "end"},
		{"day", "balance", "balance"}, {"balance", "account", "much"}, {"much", "+", "much"}, {"much", "-", "much"}, {"much", "number", "most"}, {"most", "+", "much"}, {"most", "-", "much"}, {"most", "*", "much"}, {"most", "cur", "end"},
		{"most", "~", "off"}, {"off", "+", "off"}, {"off", "-", "off"}, {"off", "number", "offs"}, {"offs", "+", "off"}, {"offs", "-", "off"}, {"offs", "*", "off"}, {"offs", "cur", "end"},
		{"day", "txn", "txn+"}, {"day", "*", "txn+"}, {"day", "!", "txn+"}, {"txn+", "text", "one+"}, {"txn+", "method", "one+"}, {"one+", "text", "marks+"}, {"one+", "method", "marks+"},
		{"txn+", "tag", "marks+"}, {"txn+", "link", "marks+"}, {"one+", "tag", "marks+"}, {"one+", "link", "marks+"}, {"marks+", "tag", "marks+"}, {"marks+", "link", "marks+"},
	}
}

// model tells by steps what Head is to tell.
type model map[[2]string]string

// newModel makes one.
func newModel() model {
	m := model{}
	for _, s := range steps() {
		m[[2]string{s.from, s.by}] = s.to
	}
	return m
}

// sort answers which sort of word w is.
func sort(w api.Token) string {
	named := map[int]string{api.TkAccount: "account", api.TkCur: "cur", api.TkNumber: "number", api.TkText: "text", api.TkTag: "tag", api.TkLink: "link", api.TkWord: w.Text, api.TkSign: w.Text}
	switch {
	case w.Kind == api.TkText && slices.Contains([]string{"STRICT", "FIFO", "LIFO", "AVERAGE", "NONE"}, w.Text):
		return "method"
	case w.Kind == api.TkDate:
		if _, err := date.Parse(w.Text); err == api.OK {
			return "day"
		}
	}
	return named[w.Kind]
}

// head answers the place of the first word that can't stand where it does, and the error; or how many words there are.
func (m model) head(l []api.Token) (int, api.Errno) {
	at, place := "", 0
	for place < len(l) {
		to, there := m[[2]string{at, sort(l[place])}]
		switch {
		case at == "offs" && (!there || to == "end") && below(l[:place]):
			return place - 1, api.ErrForm
		case !there:
			return place, api.ErrForm
		}
		at = to
		place++
	}
	switch {
	case at == "offs" && below(l):
		return place - 1, api.ErrForm
	case at != "end" && !strings.HasSuffix(at, "+"):
		return place, api.ErrShort
	}
	return place, api.OK
}

// below tells whether the tolerance with which l ends is below 0.
func below(l []api.Token) bool {
	from := slices.IndexFunc(l, func(w api.Token) bool { return w.Text == "~" })
	value, _, err := expr.Eval(l, from+1)
	return err == api.OK && value.Neg
}

// texts answers what all words of that kind say.
func texts(l []api.Token, kind int) []string {
	var all []string
	for _, w := range l {
		if w.Kind == kind {
			all = append(all, w.Text)
		}
	}
	return all
}

// told answers the directive that l says, of which nothing is wrong.
func told(l []api.Token) api.Directive {
	d := api.Directive{Pos: l[0].Pos}
	quoted, curs := append(texts(l, api.TkText), "", ""), texts(l, api.TkCur)
	accounts := append(texts(l, api.TkAccount), "", "")
	if l[0].Text == "option" {
		d.Kind, d.Name, d.Text = api.DoOption, quoted[0], quoted[1]
		return d
	}
	d.Date, _ = date.Parse(l[0].Text)
	d.Kind = map[string]int{"open": api.DoOpen, "close": api.DoClose, "commodity": api.DoCommodity, "price": api.DoPrice, "pad": api.DoPad, "balance": api.DoBalance, "txn": api.DoTxn, "*": api.DoTxn, "!": api.DoTxn, "note": api.DoNote}[l[1].Text]
	d.Account, d.Other = accounts[0], accounts[1]
	switch d.Kind {
	case api.DoOpen:
		d.Curs = curs
		d.Book = max(0, slices.Index([]string{"STRICT", "FIFO", "LIFO", "AVERAGE", "NONE"}, quoted[0]))
	case api.DoCommodity:
		d.Curs = curs
	case api.DoPrice:
		d.Curs = curs[:1]
		d.Amount, _, _ = amount.Amount(l, 3)
	case api.DoBalance:
		d.Amount.Num, _, _ = expr.Eval(l, 3)
		d.Amount.Cur = curs[0]
		if off := slices.IndexFunc(l, func(w api.Token) bool { return w.Text == "~" }); off > 0 {
			d.HasTol = true
			d.Tol, _, _ = expr.Eval(l, off+1)
		}
	case api.DoNote:
		d.Text = quoted[0]
	case api.DoTxn:
		d.Flag = strings.ReplaceAll(l[1].Text, "txn", "*")
		d.Narration = quoted[max(0, len(quoted)-3)]
		if len(quoted) == 4 {
			d.Payee = quoted[0]
		}
		d.Tags, d.Links = onceEach(texts(l, api.TkTag)), onceEach(texts(l, api.TkLink))
	}
	return d
}

// onceEach answers each text once, where it stands first.
func onceEach(l []string) []string {
	var all []string
	for i, s := range l {
		if slices.Index(l, s) == i {
			all = append(all, s)
		}
	}
	return all
}

// isHead checks what Head tells of l, and what it tells of its text then; it tells whether l is a first line.
func isHead(t *testing.T, m model, l []api.Token) bool {
	t.Helper()
	place, err := m.head(l)
	if err != api.OK {
		is(t, l, api.Directive{}, place, err)
		return false
	}
	d := told(l)
	is(t, l, d, place, api.OK)
	readAgain(t, d)
	return true
}

// readAgain checks that d is read again from its text, which then is the text again.
func readAgain(t *testing.T, d api.Directive) {
	t.Helper()
	text := head.Text(d)
	l := words(text)
	again, place, err := head.Head(l)
	if err != api.OK || place != len(l) || !head.Same(d, again) || head.Text(again) != text {
		t.Fatalf("Head of %s: %v, %d, %d, want %v", text, again, place, err, d)
	}
	again.Pos = d.Pos
	if !reflect.DeepEqual(plain(again), plain(d)) {
		t.Fatalf("Head of %s: %v, want %v", text, again, d)
	}
}

// P15.2, P15.5: all short lists of words
func TestAllShortLists(t *testing.T) {
	m := newModel()
	kinds := words("Assets:Bank Equity:Opening USD , 5 - * ~ \"a\" \"FIFO\" #a ^a a: a")
	read := 0
	for _, s := range []string{"option", "2024-01-02 open", "2024-01-02 close", "2024-01-02 commodity", "2024-01-02 price", "2024-01-02 pad", "2024-01-02 note", "2024-01-02 balance", "2024-01-02 balance Assets:Bank 5 ~", "2024-01-02 txn", "2024-01-02 *", "2024-01-02 !"} {
		l := words(s)
		var grow func(more int)
		grow = func(more int) {
			if isHead(t, m, l) {
				read++
			}
			if more == 0 {
				return
			}
			for _, w := range kinds {
				l = append(l, w)
				grow(more - 1)
				l = l[:len(l)-1]
			}
		}
		grow(4)
	}
	if read < 300 {
		t.Errorf("%d first lines alone were read", read)
	}
}

// P15.2: all pairs of words with which lines may begin
func TestAllBeginnings(t *testing.T) {
	m := newModel()
	all := words("option open close commodity price pad note balance txn * ! ~ , { 2024-01-02 2024/02/29 Assets:Bank USD 5 \"a\" \"FIFO\" #open ^open open: option: pushtag poptag txns")
	for _, first := range all {
		isHead(t, m, []api.Token{first})
		for _, second := range all {
			isHead(t, m, []api.Token{first, second})
			for _, third := range all {
				isHead(t, m, []api.Token{first, second, third})
			}
		}
	}
}

// lines answers lines that are put together by steps, of which some have a word that is none of them.
func lines(times int) [][]api.Token {
	random := rand.New(rand.NewSource(15))
	of := map[string][]api.Token{}
	for _, w := range words("option open close commodity price pad note balance txn * ! ~ , + - 2024-01-02 1999/12/31 0001-01-01 Assets:Bank Equity:Opening Income:X-1 USD EUR A'B 5 0 1,000.50 0.001 2.0 \"a\" \"\" \"b \\\"\\n\" \"FIFO\" \"NONE\" \"STRICT\" #a #b #trip/2024 ^a ^b ^c") {
		of[sort(w)] = append(of[sort(w)], w)
	}
	all := steps()
	made := make([][]api.Token, times)
	for i := range made {
		at := ""
		for range 2 + random.Intn(14) {
			var next []step
			for _, s := range all {
				if s.from == at {
					next = append(next, s)
				}
			}
			if len(next) == 0 {
				break
			}
			s := next[random.Intn(len(next))]
			if random.Intn(60) == 0 {
				s.by = all[random.Intn(len(all))].by
			}
			sorts := of[s.by]
			w := sorts[random.Intn(len(sorts))]
			w.Pos = api.Pos{Line: i, Col: len(made[i])}
			made[i] = append(made[i], w)
			at = s.to
		}
	}
	return made
}

// P15.2, P15.5: longer lines
func TestLongerLists(t *testing.T) {
	m := newModel()
	read, kinds := 0, map[int]int{}
	for _, l := range lines(100_000) {
		if isHead(t, m, l) {
			read++
			d, _, _ := head.Head(l)
			kinds[d.Kind]++
		}
	}
	if read < 20_000 || len(kinds) != 9 {
		t.Errorf("%d first lines alone were read, of these kinds: %v", read, kinds)
	}
}

// P15.3, P15.5
func TestText(t *testing.T) {
	for _, c := range examples() {
		want := c.text
		if want == "" {
			want = c.s
		}
		c.d.Pos, c.d.Meta, c.d.Posts = api.Pos{Line: 3, Col: 1}, []api.Meta{{Key: "a", Text: "b"}}, []api.Posting{{Account: "Assets:Bank"}}
		if got := head.Text(c.d); got != want {
			t.Errorf("Text of %v: %q, want %q", c.d, got, want)
		}
		c.d.Meta, c.d.Posts = nil, nil
		readAgain(t, c.d)
	}
}

// P15.3: what no line says
func TestOddTexts(t *testing.T) {
	first := day(2024, 1, 2)
	tests := []struct {
		d    api.Directive
		want string
	}{
		{api.Directive{Kind: api.DoTxn, Date: first, Flag: "P", Narration: "padded"}, "2024-01-02 P \"padded\""},
		{api.Directive{Kind: api.DoBalance, Date: first, Account: "Assets:Bank", Amount: of("5", "USD"), Tol: number("1")}, "2024-01-02 balance Assets:Bank 5 USD"},
		{api.Directive{Kind: api.DoOption, Date: first, Name: "a", Text: "b"}, "option \"a\" \"b\""},
		{api.Directive{Kind: api.DoClose, Date: first, Account: "Assets:Bank", Curs: []string{"USD"}, Narration: "a", Tags: []string{"b"}, Text: "c"}, "2024-01-02 close Assets:Bank"},
		{api.Directive{Kind: api.DoCommodity, Date: first, Curs: []string{"USD", "EUR"}}, "2024-01-02 commodity USD"},
		{api.Directive{Kind: api.DoNote, Date: day(9999, 12, 31), Account: "Assets:Bank", Text: "\\"}, "9999-12-31 note Assets:Bank \"\\\\\""},
		{api.Directive{Kind: api.DoPrice, Date: day(1, 1, 1), Curs: []string{"A"}, Amount: of("0.00", "B")}, "0001-01-01 price A 0.00 B"},
	}
	for _, c := range tests {
		if got := head.Text(c.d); got != c.want {
			t.Errorf("Text of %v: %q, want %q", c.d, got, c.want)
		}
	}
	for _, kind := range []int{0, -1, 10, 11, math.MinInt, math.MaxInt} {
		d := api.Directive{Kind: kind, Date: first, Account: "Assets:Bank", Flag: "*", Narration: "a", Name: "b", Text: "c", Curs: []string{"USD"}}
		if got := head.Text(d); got != "" {
			t.Errorf("Text of the kind %d: %q", kind, got)
		}
	}
}

// others answers d with one thing changed, each in turn.
func others(d api.Directive) []api.Directive {
	var all []api.Directive
	add := func(change func(d *api.Directive)) {
		other := d
		change(&other)
		all = append(all, other)
	}
	add(func(d *api.Directive) { d.Kind++ })
	add(func(d *api.Directive) { d.Date.Year++ })
	add(func(d *api.Directive) { d.Date.Month++ })
	add(func(d *api.Directive) { d.Date.Day++ })
	for _, field := range []func(d *api.Directive) *string{
		func(d *api.Directive) *string { return &d.Account }, func(d *api.Directive) *string { return &d.Other }, func(d *api.Directive) *string { return &d.Amount.Cur }, func(d *api.Directive) *string { return &d.Flag }, func(d *api.Directive) *string { return &d.Payee }, func(d *api.Directive) *string { return &d.Narration }, func(d *api.Directive) *string { return &d.Name }, func(d *api.Directive) *string { return &d.Text },
	} {
		add(func(d *api.Directive) { *field(d) += "x" })
		add(func(d *api.Directive) { *field(d) = strings.ToLower(*field(d)) + " " })
	}
	for _, field := range []func(d *api.Directive) *[]string{
		func(d *api.Directive) *[]string { return &d.Curs }, func(d *api.Directive) *[]string { return &d.Tags }, func(d *api.Directive) *[]string { return &d.Links },
	} {
		add(func(d *api.Directive) { *field(d) = append(slices.Clone(*field(d)), "X") })
		add(func(d *api.Directive) { *field(d) = append([]string{"X"}, *field(d)...) })
		if l := *field(&d); len(l) > 1 && l[0] != l[1] {
			add(func(d *api.Directive) { *field(d) = l[1:] })
			add(func(d *api.Directive) { *field(d) = append(slices.Clone(l[1:]), l[0]) })
		}
	}
	for _, field := range []func(d *api.Directive) *api.Dec{
		func(d *api.Directive) *api.Dec { return &d.Amount.Num }, func(d *api.Directive) *api.Dec { return &d.Tol },
	} {
		add(func(d *api.Directive) { *field(d) = number("77.5") })
		add(func(d *api.Directive) { field(d).Scale++ })
		if value := *field(&d); len(value.Coef) > 0 {
			add(func(d *api.Directive) { field(d).Neg = !value.Neg })
			add(func(d *api.Directive) { *field(d) = number(dectext.Text(api.Dec{Coef: value.Coef}) + "0") })
		}
	}
	add(func(d *api.Directive) { d.Book++ })
	add(func(d *api.Directive) { d.HasTol = !d.HasTol })
	return all
}

// P15.4
func TestSame(t *testing.T) {
	all := examples()
	for i, c := range all {
		alike := plain(c.d)
		alike.Pos, alike.Meta, alike.Posts = api.Pos{Line: 3, Col: 9}, []api.Meta{{Key: "a", Text: "b"}}, []api.Posting{{Account: "Assets:Bank"}}
		if !head.Same(c.d, c.d) || !head.Same(c.d, alike) || !head.Same(alike, c.d) {
			t.Errorf("Same tells %v from itself", c.d)
		}
		for _, other := range others(c.d) {
			if head.Same(c.d, other) || head.Same(other, c.d) {
				t.Errorf("Same does not tell %v from %v", c.d, other)
			}
		}
		for j, b := range all {
			want := head.Text(c.d) == head.Text(b.d)
			if got := head.Same(c.d, b.d); got != want {
				t.Errorf("Same of %d and %d, %v and %v: %v", i, j, c.d, b.d, got)
			}
		}
	}
	full := api.Directive{Kind: api.DoTxn, Date: day(2024, 1, 2), Account: "A", Other: "B", Curs: []string{"C", "D"}, Book: 1, Amount: of("5.0", "E"), HasTol: true, Tol: number("1.0"), Flag: "F", Payee: "G", Narration: "H", Tags: []string{"I", "J"}, Links: []string{"K", "L"}, Name: "M", Text: "N"}
	for i, other := range others(full) {
		if head.Same(full, other) || head.Same(other, full) || !head.Same(other, plain(other)) {
			t.Errorf("Same does not tell one of all from another in its %dth change: %v", i, other)
		}
	}
}

// R3, R4: what is handed in stays as it was, and what is answered is new memory.
func TestMemory(t *testing.T) {
	for _, c := range examples() {
		room := append(words(c.s), words("USD , #a \"a\" 5")...)
		l := room[:len(room)-5]
		before := slices.Clone(room)
		c.d.Pos = api.Pos{Line: 7, Col: 1}
		for range 2 {
			is(t, l, c.d, len(l), api.OK)
			d, _, _ := head.Head(l)
			clear(d.Curs)
			clear(d.Tags)
			clear(d.Links)
			clear(d.Tol.Coef)
			if c.d.HasTol && !slices.Equal(d.Amount.Num.Coef, c.d.Amount.Num.Coef) {
				t.Errorf("what Head tells of %s shares its digits", c.s)
			}
			clear(d.Amount.Num.Coef)
		}
		if !slices.Equal(room, before) {
			t.Errorf("Head changed its words %s", c.s)
		}
	}
	d := api.Directive{Curs: make([]string, 2, 9), Tags: make([]string, 2, 9), Links: make([]string, 2, 9), Amount: api.Amount{Num: api.Dec{Coef: append(make(api.Nat, 0, 9), 5, 7)}}, HasTol: true, Tol: api.Dec{Coef: append(make(api.Nat, 0, 9), 5, 7)}, Book: 1, Payee: "a"}
	for d.Kind = range 11 {
		behind := plain(d)
		text := head.Text(d)
		head.Same(d, behind)
		if !reflect.DeepEqual(plain(d), behind) || head.Text(d) != text {
			t.Errorf("a directive of the kind %d was changed", d.Kind)
		}
	}
	for _, l := range [][]string{d.Curs, d.Tags, d.Links} {
		if slices.ContainsFunc(l[:9], func(s string) bool { return s != "" }) {
			t.Error("the room behind a list was changed")
		}
	}
}

// R1: whatever is handed in, calls end without a panic.
func TestOddArguments(t *testing.T) {
	texts := []string{"", "option", "open", "balance", "price", "txn", "*", "!", ",", "~", "-", "(", "5", "5.", "\xff", "USD", "FIFO", "2024-01-02", "2023-02-29", "a\"\n"}
	for kind := -1; kind < 12; kind++ {
		for _, s := range texts {
			for _, more := range texts {
				l := []api.Token{{Kind: api.TkDate, Text: "2024-01-02"}, {Kind: kind, Text: s, Pos: api.Pos{Line: math.MinInt, Col: math.MaxInt}}, {Kind: kind, Text: more}, {Kind: api.TkNumber, Text: more}, {Kind: api.TkSign, Text: more}, {Kind: kind, Text: more}}
				for from := range 3 {
					for to := from; to <= len(l); to++ {
						d, place, err := head.Head(l[from:to])
						if place < 0 || place > to-from || err != api.OK && !reflect.DeepEqual(d, api.Directive{}) || err == api.OK && place != to-from {
							t.Fatalf("Head of %s: %v, %d, %d", written(l[from:to]), d, place, err)
						}
						head.Text(d)
					}
				}
			}
		}
	}
	for _, num := range []api.Dec{{}, {Scale: math.MinInt}, {Scale: math.MaxInt}, {Neg: true, Coef: api.Nat{0, math.MaxUint32, 0}, Scale: -3}} {
		for _, n := range []int{math.MinInt, -1, 0, 1, 4, 5, math.MaxInt} {
			d := api.Directive{Date: day(n, -n, n), Book: n, Account: "\xff", Amount: api.Amount{Num: num}, HasTol: true, Tol: num}
			for d.Kind = range 11 {
				head.Text(d)
				head.Same(d, api.Directive{Kind: d.Kind})
			}
		}
	}
}

// P15.2: many tags, many currencies
func TestLongLines(t *testing.T) {
	const times = 200_000
	l := words("2024-01-02 *")
	open := words("2024-01-02 open Assets:Bank")
	var tags, curs []string
	for i := range times {
		s := dectext.Text(api.Dec{Coef: api.Nat{uint32(i/2 + 1)}})
		l = append(l, api.Token{Kind: api.TkTag, Text: s}, api.Token{Kind: api.TkLink, Text: s})
		open = append(open, api.Token{Kind: api.TkCur, Text: s}, api.Token{Kind: api.TkSign, Text: ","})
		curs = append(curs, s)
		if i%2 == 0 {
			tags = append(tags, s)
		}
	}
	where := api.Pos{Line: 7, Col: 1}
	is(t, l, api.Directive{Kind: api.DoTxn, Date: day(2024, 1, 2), Flag: "*", Tags: tags, Links: tags, Pos: where}, len(l), api.OK)
	is(t, open[:len(open)-1], api.Directive{Kind: api.DoOpen, Date: day(2024, 1, 2), Account: "Assets:Bank", Curs: curs, Pos: where}, len(open)-1, api.OK)
	is(t, open, api.Directive{}, len(open), api.ErrShort)
}
