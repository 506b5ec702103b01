package name_test

import (
	"math/rand"
	"regexp"
	"slices"
	"strings"
	"testing"

	"quittance/name"
)

// short answers all texts of up to n of these bytes.
func short(these string, n int) []string {
	l := []string{""}
	for from := 0; n > 0; n-- {
		to := len(l)
		for _, s := range l[from:to] {
			for i := range len(these) {
				l = append(l, s+these[i:i+1])
			}
		}
		from = to
	}
	return l
}

// long answers some texts of up to n of these bytes.
func long(these string, n, times int) []string {
	random := rand.New(rand.NewSource(11))
	l := make([]string, times)
	for i := range l {
		b := make([]byte, random.Intn(n+1))
		for j := range b {
			b[j] = these[random.Intn(len(these))]
		}
		l[i] = string(b)
	}
	return l
}

// made answers all texts of up to n of these parts, with colons between.
func made(n int, parts ...string) []string {
	l := slices.Clone(parts)
	for from := 0; n > 1; n-- {
		to := len(l)
		for _, s := range l[from:to] {
			for _, part := range parts {
				l = append(l, s+":"+part)
			}
		}
		from = to
	}
	return l
}

// paths answers texts of parts, right ones and wrong ones.
func paths() []string {
	l := made(3, "Assets", "Income", "A", "AB", "7-x", "a", "-", "", "\xc3\x84")
	return append(l, short("A:", 7)...)
}

// parts answers what stands between the colons of s, gone through byte by byte.
func parts(s string) []string {
	l := []string{""}
	for i := range len(s) {
		if s[i] == 58 {
			l = append(l, "")
			continue
		}
		l[len(l)-1] += s[i : i+1]
	}
	return l
}

// form answers an expression of whole texts, byte by byte: each is held against it with its bytes as signs.
func form(t *testing.T, s string) func(string) bool {
	t.Helper()
	whole := regexp.MustCompile(`(?s)\A(?:` + s + `)\z`)
	return func(s string) bool {
		signs := make([]rune, len(s))
		for i := range len(s) {
			signs[i] = rune(s[i])
		}
		return whole.MatchString(string(signs))
	}
}

// isForm checks a call against an expression, with all these texts, and with each of them with each byte in each place, and ahead of each.
func isForm(t *testing.T, what string, call func(string) bool, form func(string) bool, texts []string, seeds ...string) {
	t.Helper()
	check := func(s string) {
		if got, want := call(s), form(s); got != want {
			t.Fatalf("%s(%q): %t, want %t", what, s, got, want)
		}
	}
	for _, s := range texts {
		check(s)
	}
	for _, s := range seeds {
		check(s)
		for at := range len(s) + 1 {
			check(s[:at])
			check(s[at:])
			for b := range 256 {
				one := string([]byte{byte(b)})
				check(s[:at] + one + s[at:])
				if at < len(s) {
					check(s[:at] + one + s[at+1:])
				}
			}
		}
	}
}

// isYes checks a call with texts that it takes, and with some that it does not.
func isYes(t *testing.T, what string, call func(string) bool, yes, no []string) {
	t.Helper()
	for _, s := range yes {
		if !call(s) {
			t.Errorf("%s(%.60q) is false", what, s)
		}
	}
	for _, s := range no {
		if call(s) {
			t.Errorf("%s(%.60q) is true", what, s)
		}
	}
}

// P11.1
func TestParts(t *testing.T) {
	tests := []struct {
		s    string
		want []string
	}{
		{"", []string{""}}, {"A", []string{"A"}}, {"Assets:Bank:Giro", []string{"Assets", "Bank", "Giro"}}, {"Assets", []string{"Assets"}},
		{":", []string{"", ""}}, {"::", []string{"", "", ""}}, {"A:", []string{"A", ""}}, {":A", []string{"", "A"}}, {"A::B", []string{"A", "", "B"}}, {" a : b ", []string{" a ", " b "}},
		{"\xff:\x00", []string{"\xff", "\x00"}}, {"\xc3:\xa9", []string{"\xc3", "\xa9"}}, {"a\uff1ab;c", []string{"a\uff1ab;c"}}, {"a\n:b", []string{"a\n", "b"}},
	}
	for _, c := range tests {
		if got := name.Parts(c.s); !slices.Equal(got, c.want) {
			t.Errorf("Parts(%q): %q, want %q", c.s, got, c.want)
		}
	}
	for _, s := range slices.Concat(paths(), long("aB0:-\xff", 30, 2000)) {
		got := name.Parts(s)
		if !slices.Equal(got, parts(s)) {
			t.Fatalf("Parts(%q): %q, want %q", s, got, parts(s))
		}
		if joined := strings.Join(got, ":"); joined != s {
			t.Fatalf("Parts(%q), with colons between, come to %q", s, joined)
		}
	}
}

// P11.2
func TestRoot(t *testing.T) {
	roots := []string{"Assets", "Liabilities", "Equity", "Income", "Expenses"}
	for i, root := range roots {
		for _, below := range []string{"", ":", ":A", ":A:B", ":a", "::", ":Assets", ":Income:Equity", ":\xff"} {
			if got := name.Root(root + below); got != i+1 {
				t.Errorf("Root(%q): %d, want %d", root+below, got, i+1)
			}
		}
		wrong := []string{root + "s", root + " ", " " + root, ":" + root, root[1:], root[:len(root)-1], strings.ToLower(root), strings.ToUpper(root), "A:" + root, root + ";A", root + "-A", root + "\x00", root + "\uff1aA"}
		for _, s := range wrong {
			if got := name.Root(s); got != 0 {
				t.Errorf("Root(%q): %d, want 0", s, got)
			}
		}
	}
	for _, s := range []string{"", ":", "::", "A", "A:Assets", "Asset", "Expense", "Liability", "Revenue", "\xff"} {
		if got := name.Root(s); got != 0 {
			t.Errorf("Root(%q): %d, want 0", s, got)
		}
	}
	for _, s := range paths() {
		if got, want := name.Root(s), slices.Index(roots, parts(s)[0])+1; got != want {
			t.Fatalf("Root(%q): %d, want %d", s, got, want)
		}
	}
}

// P11.3
func TestAccount(t *testing.T) {
	isYes(t, "Account", name.Account, []string{
		"Assets:Bank", "Assets:Bank:Giro", "Liabilities:Card", "Equity:Opening-Balances", "Income:Work", "Expenses:Food:Bread",
		"Assets:A", "Assets:0", "Assets:9", "Assets:Z", "Assets:401k", "Assets:A-", "Assets:0-", "Assets:A--b-C9z", "Assets:2024-01-31", "Assets:Assets", "Income:A:B:C:D:E:F:G",
		"Assets:" + strings.Repeat("A", 100_000), "Assets" + strings.Repeat(":A", 100_000),
	}, []string{
		"", ":", "Assets", "Assets:", "Assets::", ":Assets", ":Assets:A", "Assets::A", "Assets:A:", "Assets:A::B", "Income", "Expenses:",
		"assets:A", "ASSETS:A", "Asset:A", "Assetss:A", "A:B", "Bank:Assets", " Assets:A", "Assets :A", "Assets: A", "Assets:A ", "Assets:A B",
		"Assets:a", "Assets:-", "Assets:-A", "Assets:A:b", "Assets:b:A", "Assets:A:-b", "Assets:A_b", "Assets:A.b", "Assets:A'b", "Assets:A/b", "Assets:A\x00", "Assets:A\n", "Assets:\xc3\x84", "Assets:A\xc3\xa4", "Assets:A\xff",
		"Assets" + strings.Repeat(":A", 100_000) + ":", "Assets" + strings.Repeat(":A", 100_000) + ":a",
	})
	isAccount := form(t, `(Assets|Liabilities|Equity|Income|Expenses)(:[A-Z0-9][A-Za-z0-9-]*)+`)
	isForm(t, "Account", name.Account, isAccount, paths(), "Assets:Bank", "Expenses:Food:9-x", "Equity:Z")
	for _, below := range short("Aa0-:_", 5) {
		s := "Income:" + below
		if got, want := name.Account(s), isAccount(s); got != want {
			t.Fatalf("Account(%q): %t, want %t", s, got, want)
		}
	}
}

// P11.4
func TestCurrency(t *testing.T) {
	const bytes24 = "ABCDEFGHIJKLMNOPQRSTUVWX"
	isYes(t, "Currency", name.Currency, []string{
		"A", "Z", "USD", "EUR", "AA", "A0", "A9", "X.Y", "A'B", "A_B", "A-B", "A.'_-.Z", "VACHR-2024.1", "A--9", bytes24, "A" + strings.Repeat("-", 22) + "9", strings.Repeat("Z", 24),
	}, []string{
		"", "a", "0", "9A", "1", "'A", ".A", "_A", "-A", "A'", "A.", "A_", "A-", ".", "-", "usd", "Usd", "USd", "US D", " USD", "USD ", "USD:", "A/B", "A:B", "A,B", "A+B", "A\x00B", "A\n", "A\nB", "\xc3\x84", "A\xc3\x84", "A\xffB", "A\xff", "A\uff0dB",
		bytes24 + "Y", strings.Repeat("Z", 25), "A" + strings.Repeat("-", 23) + "9", strings.Repeat("A", 23) + "-", strings.Repeat("A", 22) + "\xc3\x84", strings.Repeat("A", 100_000),
	})
	isCurrency := form(t, `[A-Z]([A-Z0-9'._-]{0,22}[A-Z0-9])?`)
	isForm(t, "Currency", name.Currency, isCurrency, short("AZ09a'._-", 5), "A", "USD", "X.Y", "B9", bytes24, bytes24[:23])
	for _, s := range long("ABZ059'._-", 27, 20_000) {
		if got, want := name.Currency("A"+s), isCurrency("A"+s); got != want {
			t.Fatalf("Currency(%q): %t, want %t", "A"+s, got, want)
		}
	}
}

// P11.5
func TestTag(t *testing.T) {
	isYes(t, "Tag", name.Tag, []string{
		"a", "Z", "0", "-", "_", "/", ".", "trip", "Trip-2024", "a/b", "./..", "_a_", "0.9", "--", strings.Repeat("a", 100_000),
	}, []string{
		"", " ", "#a", "^a", "a b", "a ", " a", "a:b", "a'b", "a,b", "a+b", "a\\b", "a\x00", "a\n", "\xc3\xa9", "a\xff", "@", "[", "`", "{", strings.Repeat("a", 100_000) + "!",
	})
	isForm(t, "Tag", name.Tag, form(t, `[A-Za-z0-9_/.-]+`), short("aZ0-_/.:'", 4), "a", "Trip", "-/_.")
}

// P11.6
func TestKey(t *testing.T) {
	isYes(t, "Key", name.Key, []string{
		"a", "z", "key", "aB", "a0", "a-", "a_", "a-_-_9Z", "file-name", strings.Repeat("a", 100_000),
	}, []string{
		"", "A", "Z", "0", "9a", "-", "_", "-a", "_a", "Key", "a.", "a/b", "a.b", "a:", "a b", " a", "a ", "a'", "a\x00", "a\n", "\xc3\xa9", "a\xc3\xa9", "a\xff", "`", "{", strings.Repeat("a", 100_000) + ".",
	})
	isForm(t, "Key", name.Key, form(t, `[a-z][A-Za-z0-9_-]*`), short("azA09-_./", 4), "a", "key", "zB-_0")
}

// P11.7
func TestUnder(t *testing.T) {
	tests := []struct {
		s, top string
		want   bool
	}{
		{"Assets:Bank:Giro", "Assets:Bank", true}, {"Assets:Banks", "Assets:Bank", false}, {"Assets:Bank", "Assets:Bank", true}, {"Assets:Bank", "Assets", true}, {"Assets", "Assets:Bank", false}, {"Assets:Bank", "Bank", false}, {"Assets:Bank", "Assets:", false}, {"Assets:Bank", "Asset", false}, {"Assets:Bank", "assets", false},
		{"Assets", "", true}, {"", "", true}, {":", "", true}, {"\xff", "", true}, {"", "A", false}, {"", ":", false}, {":", ":", true}, {"::", ":", true}, {":A", ":", false}, {":A", ":A", true}, {"A:", "A", true}, {"A", "A:", false}, {"A:", "A:", true}, {"A:B", "A:", false}, {"A::", "A:", true}, {"A::B", "A:", true}, {"A::B", "A", true}, {"A::B", "A:B", false},
		{"\xc3\x84:B", "\xc3", false}, {"\xc3\x84:B", "\xc3\x84", true}, {"a b:c", "a b", true}, {"a*:c", "*", false},
	}
	for _, c := range tests {
		if got := name.Under(c.s, c.top); got != c.want {
			t.Errorf("Under(%q, %q): %t, want %t", c.s, c.top, got, c.want)
		}
	}
	texts := append(short("A:b", 5), "Assets", "Assets:Bank", "Assets:Bank:Giro", "Assets:Banks")
	for _, s := range texts {
		for _, top := range texts {
			first := parts(s)
			want := top == "" || slices.Equal(first[:min(len(first), len(parts(top)))], parts(top))
			if got := name.Under(s, top); got != want {
				t.Fatalf("Under(%q, %q): %t, want %t", s, top, got, want)
			}
		}
	}
}

// P11.8, P11.9, P11.10
func TestParentDepthAndLeaf(t *testing.T) {
	tests := []struct {
		s      string
		parent string
		depth  int
		leaf   string
	}{
		{"Assets:Bank:Giro", "Assets:Bank", 3, "Giro"}, {"Assets:Bank", "Assets", 2, "Bank"}, {"Assets", "", 1, "Assets"}, {"", "", 0, ""},
		{":", "", 2, ""}, {"::", ":", 3, ""}, {":A", "", 2, "A"}, {"A:", "A", 2, ""}, {"A::", "A:", 3, ""}, {"A::B", "A:", 3, "B"}, {"a b:c d", "a b", 2, "c d"}, {" ", "", 1, " "}, {"\xff:\xfe", "\xff", 2, "\xfe"}, {"a\uff1ab", "", 1, "a\uff1ab"},
	}
	for _, c := range tests {
		if got := name.Parent(c.s); got != c.parent {
			t.Errorf("Parent(%q): %q, want %q", c.s, got, c.parent)
		}
		if got := name.Depth(c.s); got != c.depth {
			t.Errorf("Depth(%q): %d, want %d", c.s, got, c.depth)
		}
		if got := name.Leaf(c.s); got != c.leaf {
			t.Errorf("Leaf(%q): %q, want %q", c.s, got, c.leaf)
		}
	}
	for _, s := range slices.Concat(paths(), long("aB0:-\xff", 30, 2000)) {
		l := parts(s)
		last := len(l) - 1
		if got, want := name.Parent(s), strings.Join(l[:last], ":"); got != want {
			t.Fatalf("Parent(%q): %q, want %q", s, got, want)
		}
		if got, want := name.Leaf(s), l[last]; got != want {
			t.Fatalf("Leaf(%q): %q, want %q", s, got, want)
		}
		if got := name.Depth(s); got != len(l) && s != "" {
			t.Fatalf("Depth(%q): %d, want %d", s, got, len(l))
		}
	}
}

// globbed tells whether s is what the pattern says, by all that each * may take.
func globbed(pattern, s string) bool {
	// can[i] tells whether the first i bytes of s are what the pattern says up to here.
	can := make([]bool, len(s)+1)
	can[0] = true
	for p := range len(pattern) {
		next := make([]bool, len(s)+1)
		for i := range can {
			if pattern[p] == 42 {
				next[i] = can[i] || i > 0 && next[i-1]
			} else {
				next[i] = i > 0 && can[i-1] && (pattern[p] == 63 || pattern[p] == s[i-1])
			}
		}
		can = next
	}
	return can[len(s)]
}

// P11.11
func TestGlob(t *testing.T) {
	tests := []struct {
		pattern, s string
		want       bool
	}{
		{"", "", true}, {"", "a", false}, {"a", "", false}, {"?", "", false}, {"*", "", true}, {"**", "", true}, {"*?", "", false}, {"?*", "", false},
		{"a", "a", true}, {"a", "b", false}, {"a", "ab", false}, {"ab", "a", false}, {"?", "a", true}, {"?", "ab", false}, {"??", "ab", true}, {"*", "ab", true}, {"*?*", "a", true}, {"?*?", "a", false},
		{"Assets:*", "Assets:Bank:Giro", true}, {"Assets:*", "Assets:", true}, {"Assets:*", "Assets", false}, {"*:Giro", "Assets:Bank:Giro", true}, {"*:Gir", "Assets:Bank:Giro", false}, {"Assets:*:Giro", "Assets:Bank:Giro", true}, {"Assets:*:Giro", "Assets:Giro", false}, {"*Bank*", "Assets:Bank:Giro", true}, {"*bank*", "Assets:Bank:Giro", false}, {"A*B?n*G*o", "Assets:Bank:Giro", true}, {"Assets:????", "Assets:Bank", true}, {"Assets:???", "Assets:Bank", false},
		{"*ab", "aab", true}, {"*ab", "abab", true}, {"*ab", "aba", false}, {"a*b*c", "abbc", true}, {"a*b*c", "acbc", true}, {"a*b*c", "accb", false}, {"*aab", "aaaab", true}, {"*a?b*", "aacb", true}, {"*a*a*", "a", false}, {"*a*a*", "aa", true},
		{"*", "*", true}, {"?", "*", true}, {"?", "?", true}, {"a", "*", false}, {"a", "?", false}, {"a*", "*a", false}, {"**a", "*a", true}, {"*?a", "?a", true},
		{"[a-z]", "b", false}, {"[a-z]", "[a-z]", true}, {"\\*", "*", false}, {"\\*", "\\ab", true}, {"\\?", "?", false}, {"{a,b}", "a", false}, {".*", "ab", false}, {".*", ".b", true}, {"a+", "aa", false}, {"a+", "a+", true}, {"%", "a", false}, {"_", "a", false}, {"A", "a", false},
		{"?", "\n", true}, {"*", "a\nb\r\n", true}, {"?", "\x00", true}, {"?", "\xff", true}, {"?", "\xc3\xa9", false}, {"??", "\xc3\xa9", true}, {"\xc3?", "\xc3\xa9", true}, {"*\xa9", "\xc3\xa9", true}, {"?", "\u20ac", false}, {"???", "\u20ac", true}, {"a/*", "a/b/c", true}, {"*", ".a", true}, {"*:*", "a:b:c", true}, {"?:?", "::a", true}, {"?:?", "a:bc", false}, {"?:?", "a:", false},
	}
	for _, c := range tests {
		if got := name.Glob(c.pattern, c.s); got != c.want {
			t.Errorf("Glob(%q, %q): %t, want %t", c.pattern, c.s, got, c.want)
		}
	}
	texts := short("ab*?", 4)
	for _, pattern := range short("ab?*", 5) {
		for _, s := range texts {
			if got, want := name.Glob(pattern, s), globbed(pattern, s); got != want {
				t.Fatalf("Glob(%q, %q): %t, want %t", pattern, s, got, want)
			}
		}
	}
	texts = long("ab", 14, 200)
	for _, pattern := range long("aabb?**", 12, 2000) {
		for _, s := range texts {
			if got, want := name.Glob(pattern, s), globbed(pattern, s); got != want {
				t.Fatalf("Glob(%q, %q): %t, want %t", pattern, s, got, want)
			}
		}
	}
}

// P11.11: each byte is itself, and one of any.
func TestGlobOfEachByte(t *testing.T) {
	for b := range 256 {
		one := string([]byte{byte(b)})
		for other := range 256 {
			s := string([]byte{byte(other)})
			want := b == other || one == "?" || one == "*"
			if got := name.Glob(one, s); got != want {
				t.Fatalf("Glob(%q, %q): %t, want %t", one, s, got, want)
			}
		}
		for _, pattern := range []string{"?", "*", "**", "?*", "*?"} {
			if !name.Glob(pattern, one) {
				t.Fatalf("Glob(%q, %q) is false", pattern, one)
			}
		}
	}
}

// P11.12
func TestCommon(t *testing.T) {
	tests := []struct{ a, b, want string }{
		{"Assets:Bank:Giro", "Assets:Bank:Save", "Assets:Bank"}, {"Assets:Bank", "Assets:Banks", "Assets"}, {"Assets:Bank", "Assets:Bank:Giro", "Assets:Bank"}, {"Assets:Bank", "Assets:Bank", "Assets:Bank"}, {"Assets", "Assets:Bank", "Assets"}, {"Assets", "Assetss", ""}, {"Assets:A", "Income:A", ""}, {"Assets:A:X", "Assets:B:X", "Assets"},
		{"", "", ""}, {"", "A", ""}, {"", ":", ""}, {":", ":", ":"}, {":", "::", ":"}, {":A", ":B", ""}, {":A", ":A", ":A"}, {":A:B", ":A:C", ":A"}, {"A:", "A", "A"}, {"A:", "A:", "A:"}, {"A:", "A:B", "A"}, {"A::B", "A::C", "A:"}, {"A::B", "A:", "A:"}, {"A::", "A::", "A::"}, {"AB", "AC", ""}, {"A:BC:D", "A:BD:D", "A"},
		{"\xc3\x84:A", "\xc3\x96:A", ""}, {"A:\xc3\x84", "A:\xc3\x96", "A"}, {"A:\xff:B", "A:\xff:C", "A:\xff"}, {"A:b", "A:B", "A"},
	}
	for _, c := range tests {
		for _, got := range []string{name.Common(c.a, c.b), name.Common(c.b, c.a)} {
			if got != c.want {
				t.Errorf("Common(%q, %q): %q, want %q", c.a, c.b, got, c.want)
			}
		}
	}
	for _, l := range [][]string{paths(), long("AB::", 12, 800)} {
		for _, a := range l {
			for _, b := range l {
				isCommon(t, a, b)
			}
		}
	}
}

// isCommon checks what is common to a and b, and that both are under it (P11.12, P11.14).
func isCommon(t *testing.T, a, b string) {
	t.Helper()
	first, second := name.Parts(a), name.Parts(b)
	n := 0
	for n < len(first) && n < len(second) && first[n] == second[n] {
		n++
	}
	got := name.Common(a, b)
	if want := strings.Join(first[:n], ":"); got != want {
		t.Fatalf("Common(%q, %q): %q, want %q", a, b, got, want)
	}
	if got != "" && (!name.Under(a, got) || !name.Under(b, got)) {
		t.Fatalf("%q and %q are not both under %q", a, b, got)
	}
}

// P11.13: who is under one is under all that is above that.
func TestUnderAllThatIsAbove(t *testing.T) {
	texts := append(short("A:b", 5), made(3, "Assets", "Bank", "Giro")...)
	for _, s := range texts {
		for _, top := range texts {
			if !name.Under(s, top) {
				continue
			}
			for above := top; above != ""; {
				above = name.Parent(above)
				if !name.Under(s, above) {
					t.Fatalf("%q is under %q, but not under %q", s, top, above)
				}
			}
		}
	}
}

// P11.13: an account's parent has one part less.
func TestParentsHaveOnePartLess(t *testing.T) {
	accounts := 0
	for _, s := range append(paths(), "Assets"+strings.Repeat(":A", 1000)) {
		if !name.Account(s) {
			continue
		}
		accounts++
		parent := name.Parent(s)
		if got, want := name.Depth(parent), name.Depth(s)-1; got != want {
			t.Fatalf("%q has %d parts, want %d", parent, got, want)
		}
		if !name.Under(s, parent) || name.Under(parent, s) || parent+":"+name.Leaf(s) != s || name.Root(parent) != name.Root(s) {
			t.Fatalf("%q is not just above %q", parent, s)
		}
	}
	if accounts < 20 {
		t.Errorf("only %d accounts are looked at", accounts)
	}
}

// R3: what is answered is new.
func TestMemoryIsNew(t *testing.T) {
	const s = "Assets:Bank:Giro"
	got := name.Parts(s)
	for i := range got[:cap(got)] {
		got[:cap(got)][i] = "x"
	}
	if again := name.Parts(s); !slices.Equal(again, []string{"Assets", "Bank", "Giro"}) {
		t.Errorf("Parts answers %q after what it answered was changed", again)
	}
}

// R1: long texts are gone through to their ends.
func TestLongTexts(t *testing.T) {
	const times = 1 << 20
	colons := strings.Repeat(":", times)
	if len(name.Parts(colons)) != times+1 || name.Depth(colons) != times+1 || name.Parent(colons) != colons[1:] || name.Leaf(colons) != "" || name.Root(colons) != 0 || name.Account(colons) {
		t.Errorf("so many colons are not gone through as they are to be")
	}
	deep := "Equity" + strings.Repeat(":A", times)
	if !name.Account(deep) || name.Depth(deep) != times+1 || name.Root(deep) != 3 || !name.Under(deep, name.Parent(deep)) || name.Common(deep, deep+"A") != name.Parent(deep) || name.Common(deep, deep+":A") != deep {
		t.Errorf("so many parts are not gone through as they are to be")
	}
	long := strings.Repeat("a", times)
	if !name.Glob("*", long) || !name.Glob(strings.Repeat("?", times), long) || !name.Glob(strings.Repeat("*", times), long) || !name.Glob(long, long) || name.Glob(long+"?", long) || name.Glob(long[1:], long) || !name.Glob("*"+long[1:], long) {
		t.Errorf("so many bytes are not gone through as they are to be")
	}
}

// R1: many * that may take much take no more time than the text's and the pattern's lengths together ask for.
func TestManyStars(t *testing.T) {
	s := strings.Repeat("a", 4000)
	for _, part := range []string{"*a", "a*", "*?a", "**a?"} {
		pattern := strings.Repeat(part, 300)
		if !name.Glob(pattern, s) {
			t.Errorf("Glob of %q 300 times is false", part)
		}
		if name.Glob(pattern+"b", s) || name.Glob(pattern+"b*", s) || name.Glob("b"+pattern, s) {
			t.Errorf("Glob of %q 300 times, and another byte, is true", part)
		}
	}
}
