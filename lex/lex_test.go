package lex_test

import (
	"math"
	"math/rand"
	"regexp"
	"runtime"
	"slices"
	"strings"
	"testing"
	"time"

	"quittance/api"
	"quittance/lex"
)

// word makes a word without a place.
func word(kind int, says string) api.Token { return api.Token{Kind: kind, Text: says} }

// placed makes a word of the first line.
func placed(kind int, says string, col int) api.Token {
	return api.Token{Kind: kind, Text: says, Pos: api.Pos{Line: 1, Col: col}}
}

// short answers all texts of up to n of these bytes.
func short(these string, n int) []string {
	l := []string{""}
	for from := 0; n > 0; n-- {
		to := len(l)
		for _, s := range l[from:to] {
			for i := range len(these) {
				l = append(l, s+these[i:i+1])
			}
		}
		from = to
	}
	return l
}

// changed answers each of these texts with each byte in each place, and ahead of each, and all their beginnings and ends.
func changed(seeds ...string) []string {
	var l []string
	for _, s := range seeds {
		for at := range len(s) + 1 {
			l = append(l, s[:at], s[at:])
			for b := range 256 {
				one := string([]byte{byte(b)})
				l = append(l, s[:at]+one+s[at:])
				if at < len(s) {
					l = append(l, s[:at]+one+s[at+1:])
				}
			}
		}
	}
	return l
}

// pieces are what lines are put together from: words, bytes between them, and what is wrong.
var pieces = []string{
	"2024-01-31", "2024/02/29", "2023-02-29", "2024-1-31", "0001-01-01", "9999-12-31", "0000-01-01",
	"1", "12", "1,000.50", "1,00", "12,345", "0.5", "1.", ".5", "007", ",", ".",
	"Assets:Bank", "Income:A-b:7", "Assets:", "Assets", "USD", "A", "VACHR-2024.1", "U'S_D", "Usd", "USD-", "ABCDEFGHIJKLMNOPQRSTUVWXYZ",
	"open", "txn", "a-b_C9", "key:", "file-name:", "a:b",
	"#trip", "#", "#a/b.c", "^link-1", "^", "^^",
	"\"\"", "\"a b\"", "\"a\\\"b\"", "\"\\\\\"", "\"\\n\\t\"", "\"\\x\"", "\"a", "\"a\\", "\"; no remark\"",
	"{", "}", "{{", "}}", "@", "@@", "*", "!", "+", "-", "/", "(", ")", "~",
	";", "; all", "$", "\\", "'", "_", ":", "=", "\r", "\n", "\x00", "\u00e4", "\xff", "\u00a0",
}

// lines answers lines of these pieces, with blanks between them or none.
func lines(times int) []string {
	random := rand.New(rand.NewSource(12))
	gaps := []string{" ", " ", " ", "\t", "  ", " \t ", ""}
	l := make([]string, times)
	for i := range l {
		s := gaps[random.Intn(len(gaps))]
		for range random.Intn(12) {
			s += pieces[random.Intn(len(pieces))] + gaps[random.Intn(len(gaps))]
		}
		l[i] = s
	}
	return l
}

// bytesAsSigns answers s with a sign for each byte, so that expressions go byte by byte.
func bytesAsSigns(s string) string {
	signs := make([]rune, len(s))
	for i := range len(s) {
		signs[i] = rune(s[i])
	}
	return string(signs)
}

// bytesOf answers the bytes for which these signs stand.
func bytesOf(signs string) string {
	var b []byte
	for _, r := range signs {
		b = append(b, byte(r))
	}
	return string(b)
}

var (
	quoted   = regexp.MustCompile(`(?s)\A"((?:[^"\\]|\\["\\nt])*)"`)
	cutShort = regexp.MustCompile(`(?s)\A"(?:[^"\\]|\\["\\nt])*\\?\z`)
	day      = regexp.MustCompile(`\A([0-9]{4}-[0-9]{2}-[0-9]{2}|[0-9]{4}/[0-9]{2}/[0-9]{2})([^0-9]|\z)`)
	number   = regexp.MustCompile(`\A[0-9](?:[0-9]|,[0-9])*(?:\.[0-9]+)?`)
	grouped  = regexp.MustCompile(`\A(?:[0-9]+|[0-9]{1,3}(?:,[0-9]{3})+)(?:\.[0-9]+)?\z`)
	marked   = regexp.MustCompile(`\A[#^]([A-Za-z0-9_/.-]*)`)
	named    = regexp.MustCompile(`\A[A-Z][A-Za-z0-9:._'-]*`)
	account  = regexp.MustCompile(`\A(?:Assets|Liabilities|Equity|Income|Expenses)(?::[A-Z0-9][A-Za-z0-9-]*)+\z`)
	currency = regexp.MustCompile(`\A[A-Z](?:[A-Z0-9'._-]{0,22}[A-Z0-9])?\z`)
	plain    = regexp.MustCompile(`\A([a-z][A-Za-z0-9_-]*)(:?)`)
	sign     = regexp.MustCompile(`\A(?:\{\{|\}\}|@@|[{}@*!+/(),~-])`)
)

// unquote answers what Unquote is to tell of s.
func unquote(s string) (string, int, api.Errno) {
	signs := bytesAsSigns(s)
	if found := quoted.FindStringSubmatch(signs); found != nil {
		says := strings.NewReplacer(`\"`, `"`, `\\`, `\`, `\n`, "\n", `\t`, "\t").Replace(found[1])
		return bytesOf(says), len(bytesOf(found[0])), api.OK
	}
	switch {
	case !strings.HasPrefix(s, `"`):
		return "", 0, api.ErrArg
	case cutShort.MatchString(signs):
		return "", 0, api.ErrShort
	}
	return "", 0, api.ErrForm
}

// next answers what Next is to tell of s.
func next(s string) (api.Token, int, api.Errno) {
	if s == "" {
		return api.Token{}, 0, api.ErrArg
	}
	if s[0] == '"' {
		says, size, err := unquote(s)
		if err != api.OK {
			return api.Token{}, 0, err
		}
		return word(api.TkText, says), size, api.OK
	}
	kind, says, written := look(bytesAsSigns(s))
	if kind == 0 {
		return api.Token{}, 0, api.ErrForm
	}
	return word(kind, says), len(written), api.OK
}

// look answers the word with which s begins, which is not empty and no text: its kind, what it says, and how it is written; 0, if it is none.
func look(s string) (kind int, says, written string) {
	if found := marked.FindStringSubmatch(s); found != nil && found[1] != "" {
		return map[byte]int{'#': api.TkTag, '^': api.TkLink}[s[0]], found[1], found[0]
	}
	if found := day.FindStringSubmatch(s); found != nil {
		_, err := time.Parse("2006-01-02", strings.ReplaceAll(found[1], "/", "-"))
		if err == nil && found[1][:4] != "0000" {
			return api.TkDate, found[1], found[1]
		}
	}
	if found := number.FindString(s); grouped.MatchString(found) {
		return api.TkNumber, found, found
	}
	found := named.FindString(s)
	if account.MatchString(found) {
		return api.TkAccount, found, found
	}
	if currency.MatchString(found) {
		return api.TkCur, found, found
	}
	if found := plain.FindStringSubmatch(s); found != nil {
		if found[2] == ":" {
			return api.TkKey, found[1], found[0]
		}
		return api.TkWord, found[1], found[0]
	}
	if found := sign.FindString(s); found != "" {
		return api.TkSign, found, found
	}
	return 0, "", ""
}

// words answers what Words is to tell of a line.
func words(l api.Line) ([]api.Token, api.Fault) {
	var all []api.Token
	for at := 0; at < len(l.Text); {
		if l.Text[at] == ';' {
			break
		}
		if l.Text[at] == ' ' || l.Text[at] == '\t' {
			at++
			continue
		}
		place := api.Pos{Line: l.No, Col: at + 1}
		t, size, err := next(l.Text[at:])
		if err != api.OK {
			return nil, api.Fault{Pos: place, Code: err}
		}
		t.Pos = place
		all = append(all, t)
		at += size
	}
	return all, api.Fault{}
}

// P12.1
func TestQuote(t *testing.T) {
	tests := []struct{ s, want string }{
		{"", `""`}, {"a", `"a"`}, {"a b", `"a b"`}, {`"`, `"\""`}, {`\`, `"\\"`}, {"\n", `"\n"`}, {"\t", `"\t"`},
		{`\n`, `"\\n"`}, {`\"`, `"\\\""`}, {`say "hi"`, `"say \"hi\""`}, {"a\nb\tc\\d\"e", `"a\nb\tc\\d\"e"`}, {"\n\n", `"\n\n"`},
		{"\r", "\"\r\""}, {"\x00\x0b\x0c\x1f\x7f", "\"\x00\x0b\x0c\x1f\x7f\""}, {"'; #^{}", `"'; #^{}"`}, {"\u00e4\u20ac", "\"\u00e4\u20ac\""}, {"\xff\xc3", "\"\xff\xc3\""}, {"nt", `"nt"`},
	}
	for _, c := range tests {
		if got := lex.Quote(c.s); got != c.want {
			t.Errorf("Quote(%q): %q, want %q", c.s, got, c.want)
		}
	}
	for b := range 256 {
		one := string([]byte{byte(b)})
		want := one
		switch b {
		case 34, 92:
			want = "\\" + one
		case 10:
			want = `\n`
		case 9:
			want = `\t`
		}
		if got := lex.Quote("x" + one + "y"); got != "\"x"+want+"y\"" {
			t.Errorf("Quote of the byte %d: %q", b, got)
		}
	}
}

// P12.2
func TestUnquote(t *testing.T) {
	tests := []struct {
		s    string
		want string
		size int
		err  api.Errno
	}{
		{`""`, "", 2, api.OK}, {`"a"`, "a", 3, api.OK}, {`"a b" c`, "a b", 5, api.OK}, {`"a""b"`, "a", 3, api.OK}, {`"" "`, "", 2, api.OK},
		{`"\""`, `"`, 4, api.OK}, {`"\\"`, `\`, 4, api.OK}, {`"\n"`, "\n", 4, api.OK}, {`"\t"`, "\t", 4, api.OK}, {`"\\n"`, `\n`, 5, api.OK}, {`"\\" "`, `\`, 4, api.OK}, {`"\\\""x`, `\"`, 6, api.OK},
		{"\"a\nb\tc\rd\"", "a\nb\tc\rd", 9, api.OK}, {"\"\u20ac\"", "\u20ac", 5, api.OK}, {"\"\xff\x00\"", "\xff\x00", 4, api.OK}, {`"; # a"`, "; # a", 7, api.OK}, {`"a" \`, "a", 3, api.OK}, {`"a"\x`, "a", 3, api.OK},
		{"", "", 0, api.ErrArg}, {"a", "", 0, api.ErrArg}, {` "a"`, "", 0, api.ErrArg}, {`\"a"`, "", 0, api.ErrArg}, {`'a'`, "", 0, api.ErrArg}, {"\u201ca\u201d", "", 0, api.ErrArg}, {`a"\x`, "", 0, api.ErrArg},
		{`"`, "", 0, api.ErrShort}, {`"a`, "", 0, api.ErrShort}, {`"a\`, "", 0, api.ErrShort}, {`"a\"`, "", 0, api.ErrShort}, {`"\\`, "", 0, api.ErrShort}, {`"\\\"`, "", 0, api.ErrShort}, {"\"a\n", "", 0, api.ErrShort}, {`"a'`, "", 0, api.ErrShort},
		{`"\x"`, "", 0, api.ErrForm}, {`"\x`, "", 0, api.ErrForm}, {`"\ `, "", 0, api.ErrForm}, {`"\N"`, "", 0, api.ErrForm}, {`"\r"`, "", 0, api.ErrForm}, {`"\0"`, "", 0, api.ErrForm}, {`"\'"`, "", 0, api.ErrForm}, {"\"\\\n\"", "", 0, api.ErrForm}, {"\"\\\t\"", "", 0, api.ErrForm}, {"\"\\\xff\"", "", 0, api.ErrForm}, {`"ab\"c\d`, "", 0, api.ErrForm}, {`"a\x\`, "", 0, api.ErrForm},
	}
	for _, c := range tests {
		if got, size, err := lex.Unquote(c.s); got != c.want || size != c.size || err != c.err {
			t.Errorf("Unquote(%q): %q, %d, %d, want %q, %d, %d", c.s, got, size, err, c.want, c.size, c.err)
		}
	}
	texts := append(short("\"\\nx", 7), changed(`"a\"b\\c\n\t"d"`, `"\\\\\"\"`)...)
	for _, s := range texts {
		for _, s := range []string{s, `"` + s} {
			want, wantSize, wantErr := unquote(s)
			if got, size, err := lex.Unquote(s); got != want || size != wantSize || err != wantErr {
				t.Fatalf("Unquote(%q): %q, %d, %d, want %q, %d, %d", s, got, size, err, want, wantSize, wantErr)
			}
		}
	}
}

// P12.7: what is quoted is unquoted, whatever follows it.
func TestWhatIsQuotedIsUnquoted(t *testing.T) {
	texts := append(short("\"\\n\n\tx", 5), changed("a\"b\\c\nd\te")...)
	for _, s := range append(texts, "\u20ac\u00e4", strings.Repeat("\"\\\n\t", 100_000)) {
		written := lex.Quote(s)
		for _, tail := range []string{"", "\"", "\\", "a", "\\\""} {
			got, size, err := lex.Unquote(written + tail)
			if got != s || size != len(written) || err != api.OK {
				t.Fatalf("Unquote of Quote(%.40q) and %q: %.40q, %d, %d", s, tail, got, size, err)
			}
		}
		if strings.ContainsAny(written, "\n\t") {
			t.Fatalf("Quote(%.40q) has line's ends or tabs: %.40q", s, written)
		}
	}
}

// P12.3
func TestMark(t *testing.T) {
	tests := []struct {
		s    string
		want int
	}{
		{"", 0}, {"{", 1}, {"}", 1}, {"@", 1}, {"*", 1}, {"!", 1}, {"+", 1}, {"-", 1}, {"/", 1}, {"(", 1}, {")", 1}, {",", 1}, {"~", 1},
		{"{{", 2}, {"}}", 2}, {"@@", 2}, {"{{{", 2}, {"}}}}", 2}, {"@@@", 2}, {"{}", 1}, {"}{", 1}, {"{ {", 1}, {"@ @", 1}, {"@{", 1},
		{"**", 1}, {"!!", 1}, {"++", 1}, {"--", 1}, {"//", 1}, {"((", 1}, {"))", 1}, {",,", 1}, {"~~", 1}, {"-5", 1}, {"{100 USD}", 1},
		{"a", 0}, {" {", 0}, {"\"", 0}, {"#", 0}, {"^", 0}, {";", 0}, {":", 0}, {".", 0}, {"=", 0}, {"[", 0}, {"]", 0}, {"<", 0}, {"%", 0}, {"&", 0}, {"|", 0}, {"\\", 0}, {"$", 0}, {"'", 0}, {"_", 0}, {"?", 0}, {"0", 0}, {"\u2212", 0}, {"\u00d7", 0}, {"\xff", 0}, {"\n", 0}, {"\x00", 0},
	}
	for _, c := range tests {
		if got := lex.Mark(c.s); got != c.want {
			t.Errorf("Mark(%q): %d, want %d", c.s, got, c.want)
		}
	}
	for first := range 256 {
		isMark(t, string([]byte{byte(first)}))
		for second := range 256 {
			isMark(t, string([]byte{byte(first), byte(second)}))
			isMark(t, string([]byte{byte(first), byte(second), byte(first)}))
		}
	}
}

// isMark checks Mark against an expression.
func isMark(t *testing.T, s string) {
	t.Helper()
	if got, want := lex.Mark(s), len(sign.FindString(bytesAsSigns(s))); got != want {
		t.Fatalf("Mark(%q): %d, want %d", s, got, want)
	}
}

// P12.4
func TestNext(t *testing.T) {
	tests := []struct {
		s    string
		kind int
		says string
		size int
	}{
		{`"a"b`, api.TkText, "a", 3}, {`""`, api.TkText, "", 2}, {`"a\n\"b" c`, api.TkText, "a\n\"b", 8}, {"\"\u20ac\n;\"", api.TkText, "\u20ac\n;", 7},
		{"#trip", api.TkTag, "trip", 5}, {"#a-b_c/d.e9 f", api.TkTag, "a-b_c/d.e9", 11}, {"#-", api.TkTag, "-", 2}, {"#A,b", api.TkTag, "A", 2}, {"#a#b", api.TkTag, "a", 2}, {"#a^b", api.TkTag, "a", 2}, {"#a;b", api.TkTag, "a", 2}, {"#2024-01-31", api.TkTag, "2024-01-31", 11}, {"#a:b", api.TkTag, "a", 2}, {"#a\u00e4", api.TkTag, "a", 2}, {"#.", api.TkTag, ".", 2}, {"#a'b", api.TkTag, "a", 2},
		{"^link", api.TkLink, "link", 5}, {"^inv/2024-1.2_x y", api.TkLink, "inv/2024-1.2_x", 15}, {"^a#b", api.TkLink, "a", 2}, {"^Z\xff", api.TkLink, "Z", 2},
		{"2024-01-31", api.TkDate, "2024-01-31", 10}, {"2024/01/31 x", api.TkDate, "2024/01/31", 10}, {"2024-02-29*", api.TkDate, "2024-02-29", 10}, {"0001-01-01", api.TkDate, "0001-01-01", 10}, {"9999-12-31-1", api.TkDate, "9999-12-31", 10}, {"2024-01-31a", api.TkDate, "2024-01-31", 10}, {"2024-01-31.5", api.TkDate, "2024-01-31", 10}, {"2024-01-31,5", api.TkDate, "2024-01-31", 10}, {"2024-01-31\xff", api.TkDate, "2024-01-31", 10},
		{"2024-01-311", api.TkNumber, "2024", 4}, {"2024/01/310", api.TkNumber, "2024", 4}, {"2023-02-29", api.TkNumber, "2023", 4}, {"2024-01/31", api.TkNumber, "2024", 4}, {"2024-1-31", api.TkNumber, "2024", 4}, {"2024-01-3", api.TkNumber, "2024", 4}, {"0000-01-01", api.TkNumber, "0000", 4}, {"2024-00-10", api.TkNumber, "2024", 4}, {"12024-01-31", api.TkNumber, "12024", 5}, {"2024.01.31", api.TkNumber, "2024.01", 7},
		{"0", api.TkNumber, "0", 1}, {"5", api.TkNumber, "5", 1}, {"007", api.TkNumber, "007", 3}, {"1000", api.TkNumber, "1000", 4}, {"1,000", api.TkNumber, "1,000", 5}, {"1,000.50 USD", api.TkNumber, "1,000.50", 8}, {"12,345,678.9", api.TkNumber, "12,345,678.9", 12}, {"0.5", api.TkNumber, "0.5", 3}, {"1.50.2", api.TkNumber, "1.50", 4}, {"1.", api.TkNumber, "1", 1}, {"1.a", api.TkNumber, "1", 1}, {"1..5", api.TkNumber, "1", 1}, {"1,", api.TkNumber, "1", 1}, {"1, 000", api.TkNumber, "1", 1}, {"1,,000", api.TkNumber, "1", 1}, {"1,.5", api.TkNumber, "1", 1}, {"1,a", api.TkNumber, "1", 1}, {"1.5,000", api.TkNumber, "1.5", 3}, {"1,000,", api.TkNumber, "1,000", 5}, {"1,000,.5", api.TkNumber, "1,000", 5}, {"1.000", api.TkNumber, "1.000", 5}, {"5USD", api.TkNumber, "5", 1}, {"5-3", api.TkNumber, "5", 1}, {"5e3", api.TkNumber, "5", 1}, {"1'000", api.TkNumber, "1", 1}, {"1_000", api.TkNumber, "1", 1}, {"12\u0663", api.TkNumber, "12", 2}, {"1\uff0c000", api.TkNumber, "1", 1},
		{"Assets:Bank", api.TkAccount, "Assets:Bank", 11}, {"Assets:Bank:Giro 5", api.TkAccount, "Assets:Bank:Giro", 16}, {"Liabilities:7,", api.TkAccount, "Liabilities:7", 13}, {"Equity:A-b", api.TkAccount, "Equity:A-b", 10}, {"Income:X;", api.TkAccount, "Income:X", 8}, {"Expenses:Food\t", api.TkAccount, "Expenses:Food", 13}, {"Assets:A{", api.TkAccount, "Assets:A", 8}, {"Assets:A\u00e4", api.TkAccount, "Assets:A", 8},
		{"USD", api.TkCur, "USD", 3}, {"A", api.TkCur, "A", 1}, {"USD,EUR", api.TkCur, "USD", 3}, {"U'S-D_1.2 x", api.TkCur, "U'S-D_1.2", 9}, {"ABCDEFGHIJKLMNOPQRSTUVWX", api.TkCur, "ABCDEFGHIJKLMNOPQRSTUVWX", 24}, {"EQUITY", api.TkCur, "EQUITY", 6}, {"USD}", api.TkCur, "USD", 3}, {"USD@", api.TkCur, "USD", 3}, {"USD\u20ac", api.TkCur, "USD", 3}, {"USD/EUR", api.TkCur, "USD", 3}, {"USD\"a\"", api.TkCur, "USD", 3},
		{"open", api.TkWord, "open", 4}, {"a", api.TkWord, "a", 1}, {"txn \"a\"", api.TkWord, "txn", 3}, {"a-b_C9.d", api.TkWord, "a-b_C9", 6}, {"open;", api.TkWord, "open", 4}, {"open :", api.TkWord, "open", 4}, {"pad\u00e4", api.TkWord, "pad", 3}, {"z/", api.TkWord, "z", 1}, {"a'b", api.TkWord, "a", 1}, {"x-", api.TkWord, "x-", 2},
		{"key:", api.TkKey, "key", 4}, {"k:v", api.TkKey, "k", 2}, {"file-name: \"x\"", api.TkKey, "file-name", 10}, {"a::", api.TkKey, "a", 2}, {"aB_-9:", api.TkKey, "aB_-9", 6}, {"open:Bank", api.TkKey, "open", 5},
		{"{", api.TkSign, "{", 1}, {"{{5", api.TkSign, "{{", 2}, {"}}}", api.TkSign, "}}", 2}, {"@@", api.TkSign, "@@", 2}, {"@ 5", api.TkSign, "@", 1}, {"*", api.TkSign, "*", 1}, {"**", api.TkSign, "*", 1}, {"!a", api.TkSign, "!", 1}, {"-1,000.50 USD", api.TkSign, "-", 1}, {"+5", api.TkSign, "+", 1}, {"/", api.TkSign, "/", 1}, {"(1", api.TkSign, "(", 1}, {")", api.TkSign, ")", 1}, {",5", api.TkSign, ",", 1}, {"~", api.TkSign, "~", 1},
	}
	for _, c := range tests {
		if got, size, err := lex.Next(c.s); got != word(c.kind, c.says) || size != c.size || err != api.OK {
			t.Errorf("Next(%q): %v, %d, %d, want %d %q, %d", c.s, got, size, err, c.kind, c.says, c.size)
		}
	}
}

// P12.4: its errors
func TestNextErrors(t *testing.T) {
	tests := []struct {
		s    string
		want api.Errno
	}{
		{"", api.ErrArg},
		{"\"", api.ErrShort}, {"\"a", api.ErrShort}, {"\"a\\", api.ErrShort}, {"\"a\\\"", api.ErrShort}, {"\"\\x\"", api.ErrForm}, {"\"\\x", api.ErrForm},
		{"#", api.ErrForm}, {"# a", api.ErrForm}, {"##a", api.ErrForm}, {"#:", api.ErrForm}, {"#\u00e4", api.ErrForm}, {"#\"a\"", api.ErrForm}, {"#;", api.ErrForm}, {"^", api.ErrForm}, {"^^", api.ErrForm}, {"^ ", api.ErrForm}, {"^'", api.ErrForm},
		{"12,34", api.ErrForm}, {"1,0", api.ErrForm}, {"1,00", api.ErrForm}, {"1,0000", api.ErrForm}, {"1234,567", api.ErrForm}, {"1,000000", api.ErrForm}, {"1,000,0", api.ErrForm}, {"1,00.50", api.ErrForm}, {"1,2,3", api.ErrForm}, {"2024,01", api.ErrForm},
		{"Assets", api.ErrForm}, {"Assets:", api.ErrForm}, {"Assets:bank", api.ErrForm}, {"Assets:Bank:", api.ErrForm}, {"Assets::Bank", api.ErrForm}, {"Assets:A.B", api.ErrForm}, {"Assets:A_B", api.ErrForm}, {"Assets:A'B", api.ErrForm}, {"Bank:A", api.ErrForm}, {"ASSETS:A", api.ErrForm}, {"Usd", api.ErrForm}, {"USd", api.ErrForm}, {"USD-", api.ErrForm}, {"USD.", api.ErrForm}, {"USD'", api.ErrForm}, {"USD:", api.ErrForm}, {"USD_ ", api.ErrForm}, {"ABCDEFGHIJKLMNOPQRSTUVWXY", api.ErrForm},
		{" ", api.ErrForm}, {" a", api.ErrForm}, {"\ta", api.ErrForm}, {";", api.ErrForm}, {"; a", api.ErrForm}, {":", api.ErrForm}, {".5", api.ErrForm}, {"_a", api.ErrForm}, {"'a'", api.ErrForm}, {"$5", api.ErrForm}, {"=", api.ErrForm}, {"[", api.ErrForm}, {"]", api.ErrForm}, {"`", api.ErrForm}, {"%", api.ErrForm}, {"&", api.ErrForm}, {"<", api.ErrForm}, {">", api.ErrForm}, {"?", api.ErrForm}, {"\\", api.ErrForm}, {"|", api.ErrForm}, {"\r", api.ErrForm}, {"\n", api.ErrForm}, {"\x00", api.ErrForm}, {"\x7f", api.ErrForm}, {"\u00c4", api.ErrForm}, {"\u00e4", api.ErrForm}, {"\u0663", api.ErrForm}, {"\u20ac5", api.ErrForm}, {"\xff", api.ErrForm}, {"\u00a0", api.ErrForm},
	}
	for _, c := range tests {
		if got, size, err := lex.Next(c.s); got != (api.Token{}) || size != 0 || err != c.want {
			t.Errorf("Next(%q): %v, %d, %d, want nothing, 0, %d", c.s, got, size, err, c.want)
		}
	}
}

// P12.4: held against expressions
func TestNextByExpressions(t *testing.T) {
	texts := changed("2024-01-31", "2024/12/31 a", "2023-02-28", "12,345.67", "1,000,000.5", "Assets:Bank-1:Giro", "USD", "V-C'H.R_2", "key-A_1: b", "#a-B_1/2.c d", "^a-B_1/2.c d", "\"a\\n\\\"b\" c", "{{5}}", "@@ 5", strings.Repeat("A", 24))
	texts = append(texts, short("01,.-", 6)...)
	texts = append(texts, short("Aa:1-", 5)...)
	texts = append(texts, short("\"\\n#^ ", 5)...)
	texts = append(texts, short("{}@*", 4)...)
	for _, root := range []string{"Assets", "Liabilities", "Equity", "Income", "Expenses", "assets", "Asset", "ASSETS"} {
		for _, tail := range short(":Aa.", 4) {
			texts = append(texts, root+tail)
		}
	}
	for _, year := range []string{"2024", "2023", "1900", "2000", "0000", "0001", "9999"} {
		for _, month := range []string{"00", "01", "02", "04", "12", "13"} {
			for _, at := range []string{"00", "01", "28", "29", "30", "31", "32"} {
				texts = append(texts, year+"-"+month+"-"+at, year+"/"+month+"/"+at, year+"-"+month+"-"+at+"0", year+"-"+month+"/"+at)
			}
		}
	}
	for _, s := range append(texts, pieces...) {
		want, wantSize, wantErr := next(s)
		if got, size, err := lex.Next(s); got != want || size != wantSize || err != wantErr {
			t.Fatalf("Next(%q): %v, %d, %d, want %v, %d, %d", s, got, size, err, want, wantSize, wantErr)
		}
	}
}

// P12.5
func TestWords(t *testing.T) {
	tests := []struct {
		s    string
		want []api.Token
	}{
		{"", nil}, {" ", nil}, {" \t \t", nil}, {";", nil}, {"; a \"", nil}, {" \t;$", nil}, {";;", nil},
		{"a", []api.Token{placed(api.TkWord, "a", 1)}}, {"  a\t", []api.Token{placed(api.TkWord, "a", 3)}}, {"\ta ; b \"", []api.Token{placed(api.TkWord, "a", 2)}}, {"a;$", []api.Token{placed(api.TkWord, "a", 1)}},
		{"-1,000.50 USD", []api.Token{placed(api.TkSign, "-", 1), placed(api.TkNumber, "1,000.50", 2), placed(api.TkCur, "USD", 11)}},
		{"\"a;b\";c", []api.Token{placed(api.TkText, "a;b", 1)}}, {"#a;b", []api.Token{placed(api.TkTag, "a", 1)}}, {"\"\u20ac\" a", []api.Token{placed(api.TkText, "\u20ac", 1), placed(api.TkWord, "a", 7)}}, {"\"\\\"\" a", []api.Token{placed(api.TkText, "\"", 1), placed(api.TkWord, "a", 6)}},
		{"{{5}}}", []api.Token{placed(api.TkSign, "{{", 1), placed(api.TkNumber, "5", 3), placed(api.TkSign, "}}", 4), placed(api.TkSign, "}", 6)}},
		{"a:b", []api.Token{placed(api.TkKey, "a", 1), placed(api.TkWord, "b", 3)}},
		{"5USD", []api.Token{placed(api.TkNumber, "5", 1), placed(api.TkCur, "USD", 2)}}, {"1,a", []api.Token{placed(api.TkNumber, "1", 1), placed(api.TkSign, ",", 2), placed(api.TkWord, "a", 3)}},
		{"2024-01-311", []api.Token{placed(api.TkNumber, "2024", 1), placed(api.TkSign, "-", 5), placed(api.TkNumber, "01", 6), placed(api.TkSign, "-", 8), placed(api.TkNumber, "311", 9)}},
		{"2024-01-31 * \"Shop\" \"Food\" #trip ^inv-1 ; paid", []api.Token{placed(api.TkDate, "2024-01-31", 1), placed(api.TkSign, "*", 12), placed(api.TkText, "Shop", 14), placed(api.TkText, "Food", 21), placed(api.TkTag, "trip", 28), placed(api.TkLink, "inv-1", 34)}},
		{"  Assets:Stock\t-5 ACME {10 USD, 2024/01/02} @@ 60 USD", []api.Token{placed(api.TkAccount, "Assets:Stock", 3), placed(api.TkSign, "-", 16), placed(api.TkNumber, "5", 17), placed(api.TkCur, "ACME", 19), placed(api.TkSign, "{", 24), placed(api.TkNumber, "10", 25), placed(api.TkCur, "USD", 28), placed(api.TkSign, ",", 31), placed(api.TkDate, "2024/01/02", 33), placed(api.TkSign, "}", 43), placed(api.TkSign, "@@", 45), placed(api.TkNumber, "60", 48), placed(api.TkCur, "USD", 51)}},
	}
	for _, c := range tests {
		if got, fault := lex.Words(api.Line{No: 1, Text: c.s}); !slices.Equal(got, c.want) || fault != (api.Fault{}) {
			t.Errorf("Words(%q): %v, %v, want %v", c.s, got, fault, c.want)
		}
	}
}

// P12.5: faults
func TestWordsFaults(t *testing.T) {
	tests := []struct {
		s    string
		col  int
		code api.Errno
	}{
		{"$", 1, api.ErrForm}, {"a $", 3, api.ErrForm}, {"\t\ta\t$ \"", 5, api.ErrForm}, {"a $ \"", 3, api.ErrForm}, {"a \" $", 3, api.ErrShort}, {"a \"b", 3, api.ErrShort}, {"\"b\\", 1, api.ErrShort}, {"a \"b\\x\" $", 3, api.ErrForm}, {"\"a\"\"", 4, api.ErrShort},
		{"1.", 2, api.ErrForm}, {".5", 1, api.ErrForm}, {"1.5.2", 4, api.ErrForm}, {"12,34", 1, api.ErrForm}, {"1,2a", 1, api.ErrForm}, {"a -1,2a", 4, api.ErrForm}, {"5 12,34 USD", 3, api.ErrForm}, {"Assets", 1, api.ErrForm}, {"a Usd ; $", 3, api.ErrForm}, {"# a", 1, api.ErrForm}, {"a^", 2, api.ErrForm}, {"a:: b", 3, api.ErrForm},
		{"a\r", 2, api.ErrForm}, {"\r", 1, api.ErrForm}, {"a\nb", 2, api.ErrForm}, {"a\x00", 2, api.ErrForm}, {"\"\u20ac\" \u20ac", 7, api.ErrForm}, {"a\u00a0b", 2, api.ErrForm}, {"a \x0b b", 3, api.ErrForm}, {"\x0c", 1, api.ErrForm}, {"2024-01-31.5", 11, api.ErrForm},
	}
	for _, c := range tests {
		want := api.Fault{Pos: api.Pos{Line: 1, Col: c.col}, Code: c.code}
		if got, fault := lex.Words(api.Line{No: 1, Text: c.s}); len(got) != 0 || fault != want {
			t.Errorf("Words(%q): %v, %v, want none, %v", c.s, got, fault, want)
		}
	}
}

// isLine checks Words against what is to be told of that line, and that its words are told again when they are written with blanks between (P12.5, P12.7); it tells whether there was no fault.
func isLine(t *testing.T, l api.Line) bool {
	t.Helper()
	want, wantFault := words(l)
	got, fault := lex.Words(l)
	if !slices.Equal(got, want) || fault != wantFault {
		t.Fatalf("Words(%d %q): %v, %v, want %v, %v", l.No, l.Text, got, fault, want, wantFault)
	}
	if fault != (api.Fault{}) {
		return false
	}
	for _, gap := range []string{" ", "\t", " \t  "} {
		col := 1
		written := make([]string, len(got))
		moved := slices.Clone(got)
		for i, w := range got {
			written[i] = lex.Text(w)
			moved[i].Pos = api.Pos{Line: l.No, Col: col}
			col += len(written[i]) + len(gap)
		}
		s := strings.Join(written, gap)
		if again, fault := lex.Words(api.Line{No: l.No, Text: s}); !slices.Equal(again, moved) || fault != (api.Fault{}) {
			t.Fatalf("Words(%q), of %q: %v, %v, want %v", s, l.Text, again, fault, moved)
		}
	}
	return true
}

// P12.5, P12.7
func TestWordsAsTheyAreWritten(t *testing.T) {
	right := 0
	for i, s := range lines(40_000) {
		if isLine(t, api.Line{No: i, Text: s}) && len(s) > 10 {
			right++
		}
	}
	for _, s := range append(short("a1 ;.-", 5), short("\"\\n ;#", 5)...) {
		isLine(t, api.Line{No: 7, Text: s})
	}
	for _, s := range changed("2024-01-31 * \"a\\\"b\" #c ^d", " Assets:B -5.0 ACME {{1 USD}} @2 USD", "a-b: \"c;\";d") {
		if isLine(t, api.Line{No: 1, Text: s}) {
			right++
		}
	}
	if right < 1000 {
		t.Errorf("only %d lines have no fault", right)
	}
	for _, a := range pieces {
		for _, b := range pieces {
			isLine(t, api.Line{No: 3, Text: a + b})
			isLine(t, api.Line{No: 3, Text: a + " " + b})
		}
	}
}

// P12.5: the line's number is told as it is.
func TestWordsOfLinesOfAnyNumber(t *testing.T) {
	for _, no := range []int{math.MinInt, -1, 0, 1, 2, 1000, math.MaxInt} {
		if got, fault := lex.Words(api.Line{No: no, Text: " a"}); len(got) != 1 || got[0].Pos != (api.Pos{Line: no, Col: 2}) || fault != (api.Fault{}) {
			t.Errorf("Words in line %d: %v, %v", no, got, fault)
		}
		if got, fault := lex.Words(api.Line{No: no, Text: " $"}); len(got) != 0 || fault.Pos != (api.Pos{Line: no, Col: 2}) || fault.Code != api.ErrForm {
			t.Errorf("Words in line %d: %v, %v", no, got, fault)
		}
	}
}

// P12.5: any number of words is handed on, in order, and none beside a fault.
func TestAnyNumberOfWords(t *testing.T) {
	for n := range 200 {
		isLine(t, api.Line{No: 1, Text: strings.Repeat("a 1 ", n) + "b"})
		isLine(t, api.Line{No: 1, Text: strings.Repeat("*", n) + "{{"})
		isLine(t, api.Line{No: 1, Text: strings.Repeat("#a", n) + "$"})
		isLine(t, api.Line{No: 1, Text: strings.Repeat("#a", n) + "; $"})
	}
}

// P12.6
func TestText(t *testing.T) {
	tests := []struct {
		t    api.Token
		want string
	}{
		{word(api.TkDate, "2024/01/31"), "2024/01/31"}, {word(api.TkAccount, "Assets:A"), "Assets:A"}, {word(api.TkCur, "USD"), "USD"}, {word(api.TkNumber, "1,000.50"), "1,000.50"}, {word(api.TkWord, "open"), "open"}, {word(api.TkSign, "{{"), "{{"},
		{word(api.TkText, "a"), `"a"`}, {word(api.TkText, ""), `""`}, {word(api.TkText, "a\"\\\n\t"), `"a\"\\\n\t"`}, {word(api.TkTag, "trip"), "#trip"}, {word(api.TkLink, "inv"), "^inv"}, {word(api.TkKey, "file"), "file:"},
		{word(api.TkTag, ""), "#"}, {word(api.TkLink, ""), "^"}, {word(api.TkKey, ""), ":"}, {word(api.TkCur, ""), ""}, {word(api.TkTag, "#"), "##"}, {word(api.TkKey, "a\""), "a\":"},
		{word(0, "a\"b"), "a\"b"}, {word(-1, "x"), "x"}, {word(11, "\n"), "\n"}, {word(math.MaxInt, "x"), "x"}, {word(math.MinInt, ""), ""}, {placed(api.TkTag, "a", 99), "#a"},
	}
	for _, c := range tests {
		if got := lex.Text(c.t); got != c.want {
			t.Errorf("Text(%v): %q, want %q", c.t, got, c.want)
		}
	}
}

// R3, R4: what is answered is new, and nothing is kept.
func TestMemoryIsNew(t *testing.T) {
	line := api.Line{No: 1, Text: strings.Repeat("Assets:A #b ", 30)}
	want, _ := words(line)
	got, _ := lex.Words(line)
	for i := range got[:cap(got)] {
		got[:cap(got)][i] = api.Token{Kind: -1}
	}
	if again, fault := lex.Words(line); !slices.Equal(again, want) || fault != (api.Fault{}) {
		t.Errorf("Words answers %v, %v after what it answered was changed", again, fault)
	}
	if _, fault := lex.Words(api.Line{No: 2, Text: "a $"}); fault.Code != api.ErrForm {
		t.Errorf("Words answers %v", fault)
	}
	if again, fault := lex.Words(line); !slices.Equal(again, want) || fault != (api.Fault{}) {
		t.Errorf("Words answers %v, %v after a fault", again, fault)
	}
}

// R1: nobody is left who waits for words.
func TestNobodyWaits(t *testing.T) {
	ahead := runtime.NumGoroutine()
	for range 100 {
		lex.Words(api.Line{No: 1, Text: strings.Repeat("a ", 100)})
		lex.Words(api.Line{No: 1, Text: strings.Repeat("a ", 100) + "$"})
	}
	if behind := runtime.NumGoroutine(); behind > ahead {
		t.Errorf("%d are at work, %d were", behind, ahead)
	}
}

// R1: long lines are gone through to their ends, in time that their length asks for.
func TestLongLines(t *testing.T) {
	const times = 200_000
	tests := []struct {
		s     string
		count int
	}{
		{"(", 1}, {"-", 1}, {"{{", 1}, {"{ ", 1}, {"a ", 1}, {"#a", 1}, {"1 ", 1}, {"1, ", 2}, {"A ", 1}, {"a:", 1}, {"\"\"", 1}, {"\"\\n\"", 1}, {"Assets:A ", 1}, {" ", 0}, {";", 0}, {"2024-01-31 ", 1}, {"2024-01-3-", 6},
	}
	for _, c := range tests {
		got, fault := lex.Words(api.Line{No: 1, Text: strings.Repeat(c.s, times)})
		if len(got) != c.count*times || fault != (api.Fault{}) {
			t.Errorf("%q so often has %d words, and the fault %v", c.s, len(got), fault)
		}
	}
	got, fault := lex.Words(api.Line{No: 1, Text: strings.Repeat("a ", times) + strings.Repeat("1,", times)})
	if len(got) != 0 || fault != (api.Fault{Pos: api.Pos{Line: 1, Col: 2*times + 1}, Code: api.ErrForm}) {
		t.Errorf("so many words, and a number that is none: %d words, and the fault %v", len(got), fault)
	}
	for _, s := range []string{strings.Repeat("1", times), "1" + strings.Repeat(",000", times), "1." + strings.Repeat("0", times), "a" + strings.Repeat("B", times), "Assets" + strings.Repeat(":A", times)} {
		if got, size, err := lex.Next(s); got.Text != s || size != len(s) || err != api.OK {
			t.Errorf("Next(%.20q): %.20q, %d, %d", s, got.Text, size, err)
		}
	}
	if got, size, err := lex.Next("A" + strings.Repeat("A:", times)); got != (api.Token{}) || size != 0 || err != api.ErrForm {
		t.Errorf("Next: %.20q, %d, %d", got.Text, size, err)
	}
}
