package utf_test

import (
	"math"
	"math/rand"
	"strings"
	"testing"
	"unicode/utf8"

	"quittance/api"
	"quittance/utf"
)

// lastSign is the greatest sign of all.
const lastSign = 1_114_111

// size answers how many bytes the sign has with which s begins, as the library tells it; 0, if there is none.
func size(s string) int {
	sign, n := utf8.DecodeRuneInString(s)
	if sign == utf8.RuneError && n == 1 {
		return 0
	}
	return n
}

// parts answers the signs and other bytes of s, in order, as the library tells them.
func parts(s string) []string {
	var l []string
	for s != "" {
		n := max(size(s), 1)
		l = append(l, s[:n])
		s = s[n:]
	}
	return l
}

// bad answers the place of the first byte of s at which no sign begins, as the library tells it; -1, if there is none.
func bad(s string) int {
	at := 0
	for _, part := range parts(s) {
		if size(part) == 0 {
			return at
		}
		at += len(part)
	}
	return -1
}

// ends answers bytes at which the forms of signs change.
func ends() []byte {
	return []byte{0, 10, 32, 127, 128, 143, 144, 159, 160, 191, 192, 193, 194, 223, 224, 225, 236, 237, 238, 239, 240, 241, 243, 244, 245, 247, 248, 251, 252, 253, 254, 255}
}

// edges answers the signs with the fewest and the most bits of each length, and those beside the numbers that are none.
func edges() []int {
	return []int{0, 1, 10, 32, 65, 126, 127, 128, 129, 233, 2046, 2047, 2048, 2049, 8364, 55_294, 55_295, 57_344, 57_345, 65_279, 65_533, 65_534, 65_535, 65_536, 65_537, 128_512, 262_143, 262_144, 1_048_575, 1_048_576, lastSign - 1, lastSign}
}

// noSigns answers numbers that are no signs.
func noSigns() []int {
	return []int{math.MinInt, math.MinInt + 1, math.MinInt32, -lastSign, -65, -1, 55_296, 55_297, 56_319, 56_320, 57_342, 57_343, lastSign + 1, lastSign + 2, 1_114_112 + 65, 1_179_648, 2_097_151, 2_097_152, math.MaxInt32, 1 << 32, 1<<32 + 65, math.MaxInt - 1, math.MaxInt}
}

// wrong answers bytes with which no sign begins, each for a cause of its own.
func wrong() []string {
	return []string{
		"",                                 // nothing
		"\x80", "\xa9", "\xbf", "\x80\x80", // bytes behind, without a first one
		"\xc3", "\xe2", "\xe2\x82", "\xf0", "\xf0\x9f", "\xf0\x9f\x98", // cut too soon
		"\xc3(", "\xc3\xc3\xa9", "\xe2(\xac", "\xe2\x82(", "\xf0(\x98\x80", "\xf0\x9f(\x80", "\xf0\x9f\x98(", "\xc3\xff", "\xe2\x82\xc0", // something else behind
		"\xc0\x80", "\xc0\xaf", "\xc1\xbf", // one byte's signs in two
		"\xe0\x80\x80", "\xe0\x82\x80", "\xe0\x9f\xbf", "\xe0\x80\xaf", // two bytes' in three
		"\xf0\x80\x80\x80", "\xf0\x8f\xbf\xbf", "\xf0\x82\x82\xac", // three bytes' in four
		"\xed\xa0\x80", "\xed\xad\xbf", "\xed\xae\x80", "\xed\xbf\xbf", // numbers that are no signs
		"\xf4\x90\x80\x80", "\xf5\x80\x80\x80", "\xf7\xbf\xbf\xbf", // above the last sign
		"\xf8\x88\x80\x80\x80", "\xf8\x80\x80\x80", "\xfb\xbf\xbf\xbf\xbf", "\xfc\x84\x80\x80\x80\x80", "\xfd\xbf\xbf\xbf\xbf\xbf", "\xfe\x80\x80\x80", "\xfe", "\xff", "\xff\xbf\xbf\xbf", // no sign's first bytes
	}
}

// mixed answers texts that are right and that are not, short ones and long ones.
func mixed() []string {
	l := []string{
		"", " ", "a", "abc", "caf\u00e9", "\u00e9", "e\u0301", "\u20ac 12.50", "\U0001F600", "\U0010FFFF!", "a\u00e9\u20ac\U0001F600z", "\x00", "\n\r\n", "\ufeffa", "\ufffd", "\ufffda\xff",
		"a\xffb", "\xff\xfe", "a\xc3", "\xc3(", "\xc3\xa9\xa9", "\xe2\x82", "\xe2\x82a", "\xe2\x82\u20ac", "\xf0\x9f\x98\u00e9", "\xed\xa0\x80", "\xc0\x80", "\u20ac\x80\u20ac", "\xf8\x88\x80\x80\x80",
		strings.Repeat("\u20ac", 999), strings.Repeat("a", 1000), strings.Repeat("\U0001F600", 1001), strings.Repeat("\xff", 1000), strings.Repeat("\xe2\x82", 700),
	}
	l = append(l, wrong()...)
	random := rand.New(rand.NewSource(9))
	for range 2000 {
		var text strings.Builder
		for range random.Intn(12) {
			switch random.Intn(3) {
			case 0:
				text.WriteByte(ends()[random.Intn(len(ends()))])
			case 1:
				text.WriteByte(byte(random.Intn(256)))
			default:
				text.WriteRune(rune(edges()[random.Intn(len(edges()))]))
			}
		}
		l = append(l, text.String())
	}
	return l
}

// encoded answers the bytes of x, which is a sign.
func encoded(t *testing.T, x int) string {
	t.Helper()
	s, err := utf.Encode(x)
	if err != api.OK || s == "" {
		t.Fatalf("Encode(%d): %q, %d", x, s, err)
	}
	return s
}

// P9.1
func TestSize(t *testing.T) {
	tests := []struct {
		s    string
		want int
	}{
		{"a", 1}, {"abc", 1}, {"\x00", 1}, {"\x7f", 1}, {"\x7f\x80", 1}, {"a\xff", 1}, {"\xc3\xa9", 2}, {"\xc3\xa9\xa9", 2}, {"\xc2\x80", 2}, {"\xdf\xbf", 2}, {"\xe0\xa0\x80", 3}, {"\xe2\x82\xac!", 3}, {"\xed\x9f\xbf", 3}, {"\xee\x80\x80", 3}, {"\xef\xbf\xbd", 3}, {"\xef\xbf\xbf", 3},
		{"\xf0\x90\x80\x80", 4}, {"\xf0\x9f\x98\x80\xff", 4}, {"\xf4\x8f\xbf\xbf", 4}, {"\xf4\x8f\xbf\xbf\xbf", 4},
	}
	for _, c := range tests {
		if got := utf.Size(c.s); got != c.want {
			t.Errorf("Size(%q): %d, want %d", c.s, got, c.want)
		}
	}
	for _, s := range wrong() {
		if got := utf.Size(s); got != 0 {
			t.Errorf("Size(%q): %d", s, got)
		}
		if got := utf.Size(s + "\x00"); s != "" && got != 0 {
			t.Errorf("Size(%q): %d", s+"\x00", got)
		}
	}
}

// isSize checks Size of the text that b has.
func isSize(t *testing.T, b []byte) {
	s := string(b)
	if got, want := utf.Size(s), size(s); got != want {
		t.Helper()
		t.Fatalf("Size(%q): %d, want %d", s, got, want)
	}
}

// isSizeWithEnds checks Size of the texts that have two more bytes behind b, and of those with a third.
func isSizeWithEnds(t *testing.T, b []byte) {
	t.Helper()
	for _, third := range ends() {
		for _, fourth := range ends() {
			isSize(t, append(b, third, fourth))
			isSize(t, append(b, third, fourth, 128))
		}
	}
}

// P9.1: all texts of up to three bytes, and those of four and five with bytes at which forms change.
func TestSizeOfShortTexts(t *testing.T) {
	b := make([]byte, 0, 5)
	for n := range 1 << 24 {
		isSize(t, append(b, byte(n>>16), byte(n>>8), byte(n)))
		if n < 1<<16 {
			isSize(t, append(b, byte(n>>8), byte(n)))
		}
		if n < 1<<8 {
			isSize(t, append(b, byte(n)))
		}
	}
	for _, first := range ends() {
		for second := range 256 {
			isSizeWithEnds(t, append(b, first, byte(second)))
		}
	}
}

// P9.2
func TestBadAndRight(t *testing.T) {
	tests := []struct {
		s    string
		want int
	}{
		{"", -1}, {"abc", -1}, {"caf\u00e9", -1}, {"a\u00e9\u20ac\U0001F600z", -1}, {"\ufffd", -1}, {"\xff", 0}, {"\x80a", 0}, {"a\xff", 1}, {"a\xffb\xff", 1}, {"ab\xc3", 2}, {"ab\xc3(", 2}, {"\xc3\xa9\xa9", 2}, {"\u20ac\xe2\x82", 3}, {"\U0001F600\xf0\x9f\x98a", 4},
		{"\u00e9\xed\xa0\x80", 2}, {"\u00e9\xf4\x90\x80\x80", 2}, {"ab\xc0\x80", 2}, {"\u20ac\u00e9\xe0\x80\x80", 5}, {strings.Repeat("\u20ac", 1000) + "\x80", 3000}, {strings.Repeat("\u20ac", 1000), -1},
	}
	for _, c := range tests {
		if got := utf.Bad(c.s); got != c.want {
			t.Errorf("Bad(%q): %d, want %d", c.s, got, c.want)
		}
	}
	for _, s := range mixed() {
		if got, want := utf.Bad(s), bad(s); got != want {
			t.Errorf("Bad(%q): %d, want %d", s, got, want)
		}
		if got, want := utf.Right(s), utf8.ValidString(s); got != want {
			t.Errorf("Right(%q): %t, want %t", s, got, want)
		}
	}
	for _, s := range wrong()[1:] {
		for _, ahead := range []string{"", "a", "\u00e9", "\u20ac", "\U0001F600", "\x00\u00e9a"} {
			if got := utf.Bad(ahead + s); got != len(ahead) || utf.Right(ahead+s) {
				t.Errorf("Bad(%q): %d, want %d", ahead+s, got, len(ahead))
			}
		}
	}
}

// P9.3
func TestCount(t *testing.T) {
	tests := []struct {
		s    string
		want int
	}{
		{"", 0}, {"a", 1}, {"abc", 3}, {"caf\u00e9", 4}, {"e\u0301", 2}, {"\u20ac 1", 3}, {"\U0001F600", 1}, {"\xff", 1}, {"\xff\xff", 2}, {"a\xffb", 3}, {"\xc3(", 2}, {"\xc3\xa9\xa9", 2}, {"\xe2\x82", 2}, {"\xe2\x82\xc3\xa9", 3}, {"\xf0\x9f\x98", 3}, {"\xed\xa0\x80", 3}, {"\xc0\x80", 2}, {"\xf4\x90\x80\x80", 4}, {"\xf8\x88\x80\x80\x80", 5},
		{strings.Repeat("\u20ac", 100_000), 100_000}, {strings.Repeat("\x80", 100_000), 100_000},
	}
	for _, c := range tests {
		if got := utf.Count(c.s); got != c.want {
			t.Errorf("Count(%.40q): %d, want %d", c.s, got, c.want)
		}
	}
	for _, s := range mixed() {
		if got, want := utf.Count(s), len(parts(s)); got != want || got != utf8.RuneCountInString(s) {
			t.Errorf("Count(%q): %d, want %d", s, got, want)
		}
	}
}

// P9.4
func TestEncode(t *testing.T) {
	tests := []struct {
		x    int
		want string
	}{
		{0, "\x00"}, {65, "A"}, {127, "\x7f"}, {128, "\xc2\x80"}, {233, "\xc3\xa9"}, {2047, "\xdf\xbf"}, {2048, "\xe0\xa0\x80"}, {8364, "\xe2\x82\xac"}, {55_295, "\xed\x9f\xbf"}, {57_344, "\xee\x80\x80"}, {65_533, "\xef\xbf\xbd"}, {65_535, "\xef\xbf\xbf"}, {65_536, "\xf0\x90\x80\x80"}, {128_512, "\xf0\x9f\x98\x80"}, {lastSign, "\xf4\x8f\xbf\xbf"},
	}
	for _, c := range tests {
		if got := encoded(t, c.x); got != c.want {
			t.Errorf("Encode(%d): %q, want %q", c.x, got, c.want)
		}
	}
	for _, x := range noSigns() {
		if s, err := utf.Encode(x); s != "" || err != api.ErrArg {
			t.Errorf("Encode(%d): %q, %d, want nothing and %d", x, s, err, api.ErrArg)
		}
	}
}

// P9.1, P9.4, P9.7: all numbers from below the first sign to above the last one; each sign's bytes are those that the library tells, and have its size.
func TestAllSigns(t *testing.T) {
	for x := -10; x <= lastSign+10; x++ {
		s, err := utf.Encode(x)
		if x < 0 || x > lastSign || x >= 55_296 && x <= 57_343 {
			if s != "" || err != api.ErrArg {
				t.Fatalf("Encode(%d): %q, %d, want nothing and %d", x, s, err, api.ErrArg)
			}
			continue
		}
		if s != string(rune(x)) || err != api.OK {
			t.Fatalf("Encode(%d): %q, %d, want %q", x, s, err, string(rune(x)))
		}
		if utf.Size(s) != len(s) || utf.Size(s+"\xbf") != len(s) || utf.Count(s) != 1 || !utf.Right(s) {
			t.Fatalf("%q has the size %d", s, utf.Size(s))
		}
	}
}

// P9.7: whatever follows a sign's bytes, it has its size.
func TestSizeWhateverFollows(t *testing.T) {
	texts := mixed()
	for _, x := range edges() {
		s := encoded(t, x)
		for first := range 256 {
			for _, second := range ends() {
				follows := string([]byte{byte(first), second})
				if got := utf.Size(s + follows); got != len(s) {
					t.Fatalf("Size(%q): %d, want %d", s+follows, got, len(s))
				}
			}
		}
		for _, follows := range texts {
			if got := utf.Size(s + follows); got != len(s) {
				t.Fatalf("Size(%q): %d, want %d", s+follows, got, len(s))
			}
		}
	}
}

// P9.7: texts that are right are so together, with as many signs as both have; and one that isn't is not so behind one that is.
func TestRightTogether(t *testing.T) {
	l := mixed()[:400]
	for _, a := range l {
		if !utf8.ValidString(a) {
			continue
		}
		for _, b := range l {
			if got, want := utf.Right(a+b), utf8.ValidString(b); got != want {
				t.Fatalf("Right(%q): %t, want %t", a+b, got, want)
			}
			if got, want := utf.Count(a+b), utf.Count(a)+utf.Count(b); got != want {
				t.Fatalf("Count(%q): %d, want %d", a+b, got, want)
			}
		}
	}
}

// P9.5
func TestCut(t *testing.T) {
	tests := []struct {
		s    string
		n    int
		want string
	}{
		{"abc", 2, "ab"}, {"abc", 3, "abc"}, {"abc", 4, "abc"}, {"abc", 1, "a"}, {"abc", 0, ""}, {"abc", -1, ""}, {"abc", math.MinInt, ""}, {"abc", math.MaxInt, "abc"}, {"", 0, ""}, {"", 5, ""}, {"", -5, ""}, {"", math.MaxInt, ""}, {"", math.MinInt, ""},
		{"caf\u00e9s", 4, "caf\u00e9"}, {"caf\u00e9s", 3, "caf"}, {"\u20ac\U0001F600z", 1, "\u20ac"}, {"\u20ac\U0001F600z", 2, "\u20ac\U0001F600"}, {"e\u0301x", 1, "e"}, {"\xff\u20ac", 1, "\xff"}, {"\xff\u20ac", 2, "\xff\u20ac"}, {"\xe2\x82\u00e9", 1, "\xe2"}, {"\xe2\x82\u00e9", 2, "\xe2\x82"}, {"\xe2\x82\u00e9", 3, "\xe2\x82\u00e9"}, {"a\xc3", 2, "a\xc3"}, {"a\xc3", 1, "a"}, {"\xed\xa0\x80", 2, "\xed\xa0"},
		{strings.Repeat("\u20ac", 2000), 1500, strings.Repeat("\u20ac", 1500)},
	}
	for _, c := range tests {
		if got := utf.Cut(c.s, c.n); got != c.want {
			t.Errorf("Cut(%.40q, %d): %.40q, want %.40q", c.s, c.n, got, c.want)
		}
	}
}

// widths answers how wide texts are cut and padded.
func widths(s string) []int {
	n := len(parts(s))
	return []int{math.MinInt, math.MinInt + 1, math.MinInt32, -1000, -1, 0, 1, 2, 3, 5, 8, n - 1, n, n + 1, n + 7, 998, 999, 1000, 1001, 2000, math.MaxInt32, math.MaxInt - 1, math.MaxInt}
}

// P9.5, P9.8: what is cut is the first signs and other bytes, no more than that; and the beginning.
func TestCutIsTheBeginning(t *testing.T) {
	for _, s := range mixed() {
		l := parts(s)
		for _, n := range widths(s) {
			got := utf.Cut(s, n)
			if want := strings.Join(l[:min(max(n, 0), len(l))], ""); got != want {
				t.Fatalf("Cut(%q, %d): %q, want %q", s, n, got, want)
			}
			if count := utf.Count(got); count > max(n, 0) || !strings.HasPrefix(s, got) {
				t.Fatalf("Cut(%q, %d): %q, of %d signs", s, n, got, count)
			}
		}
	}
}

// P9.6
func TestPad(t *testing.T) {
	tests := []struct {
		s     string
		n     int
		right bool
		want  string
	}{
		{"ab", 4, false, "ab  "}, {"ab", 4, true, "  ab"}, {"ab", 2, false, "ab"}, {"ab", 2, true, "ab"}, {"ab", 1, false, "ab"}, {"ab", 1, true, "ab"}, {"ab", 0, false, "ab"}, {"ab", -1, true, "ab"}, {"ab", math.MinInt, false, "ab"}, {"ab", math.MinInt, true, "ab"},
		{"", 3, false, "   "}, {"", 3, true, "   "}, {"", 0, false, ""}, {"", -3, true, ""}, {"", math.MinInt, false, ""}, {"\u20ac", 3, false, "\u20ac  "}, {"\u20ac", 3, true, "  \u20ac"}, {"caf\u00e9", 5, true, " caf\u00e9"}, {"\U0001F600", 2, false, "\U0001F600 "},
		{"\xff\xff", 3, false, "\xff\xff "}, {"\xe2\x82", 3, true, " \xe2\x82"}, {"\xc3", 2, false, "\xc3 "}, {" a ", 4, false, " a  "}, {"a\n", 4, true, "  a\n"}, {"\x00", 2, false, "\x00 "},
		{"ab", 1000, false, "ab" + strings.Repeat(" ", 998)}, {"ab", 1000, true, strings.Repeat(" ", 998) + "ab"}, {"ab", 1001, false, "ab" + strings.Repeat(" ", 998)}, {"ab", math.MaxInt, true, strings.Repeat(" ", 998) + "ab"}, {"", math.MaxInt, false, strings.Repeat(" ", 1000)},
		{strings.Repeat("\u20ac", 999), 5000, false, strings.Repeat("\u20ac", 999) + " "}, {strings.Repeat("\u20ac", 1000), 5000, true, strings.Repeat("\u20ac", 1000)}, {strings.Repeat("\u20ac", 1500), 2000, true, strings.Repeat("\u20ac", 1500)}, {strings.Repeat("a", 1500), 1500, false, strings.Repeat("a", 1500)},
	}
	for _, c := range tests {
		if got := utf.Pad(c.s, c.n, c.right); got != c.want {
			t.Errorf("Pad(%.40q, %d, %t): %.40q, want %.40q", c.s, c.n, c.right, got, c.want)
		}
	}
}

// P9.6: what is padded has as many signs and other bytes as were asked for, up to 1000, or is as it was.
func TestPadIsWideEnough(t *testing.T) {
	for _, s := range mixed() {
		l := parts(s)
		for _, n := range widths(s) {
			blanks := strings.Repeat(" ", max(min(max(n, 0), 1000)-len(l), 0))
			if got := utf.Pad(s, n, false); got != s+blanks {
				t.Fatalf("Pad(%q, %d, false): %q, want %q", s, n, got, s+blanks)
			}
			got := utf.Pad(s, n, true)
			if got != blanks+s {
				t.Fatalf("Pad(%q, %d, true): %q, want %q", s, n, got, blanks+s)
			}
			if count := utf.Count(got); count != max(len(l), min(n, 1000)) {
				t.Fatalf("Pad(%q, %d, true) has %d signs", s, n, count)
			}
		}
	}
}

// R1: texts of any bytes are gone through to their ends, in time that their length alone takes.
func TestLongTexts(t *testing.T) {
	const times = 1 << 20
	for _, part := range []string{"a", "\u20ac", "\U0001F600", "\xff", "\xf0\x9f\x98", "\xc3("} {
		s := strings.Repeat(part, times)
		want := len(parts(part)) * times
		if got := utf.Count(s); got != want {
			t.Errorf("Count of %q so often: %d, want %d", part, got, want)
		}
		if got := utf.Bad(s); got != bad(part) {
			t.Errorf("Bad of %q so often: %d, want %d", part, got, bad(part))
		}
		if utf.Cut(s, want) != s || utf.Cut(s, want-1) == s || utf.Cut(s, math.MaxInt) != s {
			t.Errorf("Cut of %q so often is not all of it", part)
		}
		if utf.Pad(s, math.MaxInt, true) != s {
			t.Errorf("Pad of %q so often is not it", part)
		}
	}
}
