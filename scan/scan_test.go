package scan_test

import (
	"fmt"
	"math"
	"math/rand"
	"slices"
	"strings"
	"testing"

	"quittance/api"
	"quittance/scan"
)

// at makes a place.
func at(line, col int) api.Pos { return api.Pos{Line: line, Col: col} }

// short answers all texts of up to n of these signs.
func short(signs string, n int) []string {
	l := []string{""}
	for from := 0; n > 0; n-- {
		to := len(l)
		for _, s := range l[from:to] {
			for i := range len(signs) {
				l = append(l, s+signs[i:i+1])
			}
		}
		from = to
	}
	return l
}

// texts answers all short ones that have line's ends, and some of other bytes.
func texts() []string {
	l := short("a\n\r", 7)
	random := rand.New(rand.NewSource(10))
	for range 1000 {
		b := make([]byte, random.Intn(40))
		for i := range b {
			b[i] = "\n\r \t;*ab\x00\x0b\x0c\x85\xc3\xa9\xe2\x80\xa8\xff"[random.Intn(18)]
		}
		l = append(l, string(b))
	}
	return l
}

// lines answers what the lines of s say, as the library parts them.
func lines(s string) []string {
	l := strings.Split(s, "\n")
	if l[len(l)-1] == "" {
		l = l[:len(l)-1]
	}
	for i := range l {
		l[i] = strings.TrimSuffix(l[i], "\r")
	}
	return l
}

// numbered answers lines that say this, from 1 on.
func numbered(l ...string) []api.Line {
	var made []api.Line
	for i, text := range l {
		made = append(made, api.Line{No: i + 1, Text: text})
	}
	return made
}

// begins answers where lines begin in s, the one at its end counted.
func begins(s string) []int {
	l := []int{0}
	for i := 1; i <= len(s); i++ {
		if s[i-1] == 10 {
			l = append(l, i)
		}
	}
	return l
}

// numbers answers numbers from the least one on, among them all small ones.
func numbers() []int {
	l := []int{math.MinInt, math.MinInt + 1, math.MinInt + 2, math.MinInt32, -1000, -11, -10, -9}
	for n := -3; n < 12; n++ {
		l = append(l, n)
	}
	return append(l, 99, 100, 101, math.MaxInt32, math.MaxInt-2, math.MaxInt-1, math.MaxInt)
}

// P10.1, P10.2
func TestLines(t *testing.T) {
	tests := []struct {
		s    string
		want []api.Line
	}{
		{"", nil},
		{"\n", numbered("")}, {"\n\n", numbered("", "")}, {"\n\n\n", numbered("", "", "")},
		{"a", numbered("a")}, {"a\n", numbered("a")}, {"a\n\n", numbered("a", "")}, {"\na", numbered("", "a")}, {"a\nb", numbered("a", "b")}, {"a\nb\n", numbered("a", "b")}, {"a\n\nb", numbered("a", "", "b")},
		{"\r", numbered("")}, {"\r\n", numbered("")}, {"a\r\n", numbered("a")}, {"a\r\nb\r\n", numbered("a", "b")}, {"a\r\nb\r", numbered("a", "b")}, {"a\n\r", numbered("a", "")}, {"a\n\r\n", numbered("a", "")}, {"\r\n\r\n", numbered("", "")},
		{"a\r\r\n", numbered("a\r")}, {"a\r\r", numbered("a\r")}, {"\r\r", numbered("\r")}, {"a\rb", numbered("a\rb")}, {"\ra\n", numbered("\ra")}, {"\n\ra", numbered("", "\ra")}, {"a\r \n", numbered("a\r ")},
		{" a\t\n\t b \n", numbered(" a\t", "\t b ")}, {"  \n\t", numbered("  ", "\t")},
		{"a\x0bb\x0cc\x00d", numbered("a\x0bb\x0cc\x00d")}, {"a\xc2\x85b\u2028c\u2029d\n", numbered("a\xc2\x85b\u2028c\u2029d")}, {"\xff\n\xfe\r\n\x80", numbered("\xff", "\xfe", "\x80")},
		{"; one\n* two\n\n2024-01-31 open A:B\r\n  x: \"y\"", numbered("; one", "* two", "", "2024-01-31 open A:B", "  x: \"y\"")},
	}
	for _, c := range tests {
		if got := scan.Lines(c.s); !slices.Equal(got, c.want) {
			t.Errorf("Lines(%q): %#v, want %#v", c.s, got, c.want)
		}
		if got := scan.Count(c.s); got != len(c.want) {
			t.Errorf("Count(%q): %d, want %d", c.s, got, len(c.want))
		}
	}
	for _, s := range texts() {
		want := numbered(lines(s)...)
		if got := scan.Lines(s); !slices.Equal(got, want) {
			t.Fatalf("Lines(%q): %#v, want %#v", s, got, want)
		}
		if got := scan.Count(s); got != len(want) {
			t.Fatalf("Count(%q): %d, want %d", s, got, len(want))
		}
	}
}

// P10.3
func TestIndent(t *testing.T) {
	tests := []struct {
		text string
		want int
	}{
		{"", 0}, {" ", 1}, {"\t", 1}, {"   ", 3}, {" \t \t", 4}, {"\t\t\t", 3}, {"a", 0}, {" a", 1}, {"\ta", 1}, {"  \t a  ", 4}, {"a ", 0}, {" a b", 1}, {";", 0}, {"  ;", 2}, {" *", 1},
		{"\n", 0}, {" \n ", 1}, {"\r", 0}, {" \r", 1}, {"\x0b a", 0}, {" \x0c", 1}, {"\x00 ", 0}, {"\x1f", 0}, {"!", 0}, {"\x08", 0}, {"  \u00a0", 2}, {"\u3000", 0}, {"\xa0", 0}, {" \xff", 1},
		{strings.Repeat(" \t", 100_000), 200_000}, {strings.Repeat("\t ", 100_000) + "a ", 200_000},
	}
	for _, c := range tests {
		if got := scan.Indent(c.text); got != c.want {
			t.Errorf("Indent(%.40q): %d, want %d", c.text, got, c.want)
		}
	}
	for b := range 256 {
		want := 1
		if b == 32 || b == 9 {
			want = 3
		}
		if got := scan.Indent(" " + string([]byte{byte(b)}) + "\ta"); got != want {
			t.Errorf("Indent of the byte %d: %d, want %d", b, got, want)
		}
	}
}

// P10.4
func TestBlank(t *testing.T) {
	tests := []struct {
		text string
		want bool
	}{
		{"", true}, {" ", true}, {"\t", true}, {" \t  \t", true}, {";", true}, {"; a", true}, {";a", true}, {"  ;", true}, {"\t; a", true}, {" \t;;", true}, {";*", true}, {" ;*", true},
		{"*", true}, {"* a", true}, {"*a", true}, {"** a", true}, {"*;", true}, {"* ", true}, {"*\t2024-01-31", true},
		{" *", false}, {"\t*", false}, {"  * a", false}, {" \t*", false}, {" * ;", false},
		{"a", false}, {" a", false}, {"\ta", false}, {"a;", false}, {"a ;", false}, {" a ; b", false}, {"a*", false}, {"2024-01-31 * \"a\"", false}, {"-", false}, {"#", false}, {"\"", false}, {":", false}, {"!", false}, {"//", false}, {"+", false},
		{"\r", false}, {" \r", false}, {"\n", false}, {" \n", false}, {"\x0b", false}, {"\x0c", false}, {"\x00", false}, {"\u00a0", false}, {"\u00a0;", false}, {"\xff", false}, {"\ufeff;", false}, {"\uff1b", false},
		{strings.Repeat("\t ", 100_000), true}, {strings.Repeat("\t ", 100_000) + ";", true}, {strings.Repeat("\t ", 100_000) + "*", false},
	}
	for _, c := range tests {
		if got := scan.Blank(c.text); got != c.want {
			t.Errorf("Blank(%.40q): %t, want %t", c.text, got, c.want)
		}
	}
	for _, text := range short(" \t;*a\r", 5) {
		rest := strings.TrimLeft(text, " \t")
		want := rest == "" || strings.HasPrefix(rest, ";") || strings.HasPrefix(text, "*")
		if got := scan.Blank(text); got != want {
			t.Fatalf("Blank(%q): %t, want %t", text, got, want)
		}
	}
}

// P10.5
func TestWhere(t *testing.T) {
	tests := []struct {
		s    string
		at   int
		want api.Pos
	}{
		{"", 0, at(1, 1)}, {"", 1, at(1, 1)}, {"", -1, at(1, 1)}, {"", math.MaxInt, at(1, 1)}, {"", math.MinInt, at(1, 1)},
		{"ab", 0, at(1, 1)}, {"ab", 1, at(1, 2)}, {"ab", 2, at(1, 3)}, {"ab", 3, at(1, 3)}, {"ab", math.MaxInt, at(1, 3)}, {"ab", -1, at(1, 1)}, {"ab", math.MinInt, at(1, 1)},
		{"ab\ncd", 2, at(1, 3)}, {"ab\ncd", 3, at(2, 1)}, {"ab\ncd", 4, at(2, 2)}, {"ab\ncd", 5, at(2, 3)}, {"ab\ncd", 6, at(2, 3)}, {"ab\ncd", -5, at(1, 1)},
		{"\n", 0, at(1, 1)}, {"\n", 1, at(2, 1)}, {"\n", 2, at(2, 1)}, {"\n\n", 1, at(2, 1)}, {"\n\n", 2, at(3, 1)}, {"\na", 1, at(2, 1)}, {"\na", -1, at(1, 1)},
		{"a\r\nb", 1, at(1, 2)}, {"a\r\nb", 2, at(1, 3)}, {"a\r\nb", 3, at(2, 1)}, {"a\rb", 2, at(1, 3)}, {"a\r", 2, at(1, 3)}, {"a\r\n", 9, at(2, 1)},
		{"\u20ac\u20ac", 3, at(1, 4)}, {"\u20ac\u20ac", 4, at(1, 5)}, {"\t\ta", 2, at(1, 3)}, {"\xff\xff", 1, at(1, 2)},
	}
	for _, c := range tests {
		if got := scan.Where(c.s, c.at); got != c.want {
			t.Errorf("Where(%q, %d): %v, want %v", c.s, c.at, got, c.want)
		}
	}
	for _, s := range texts() {
		for _, n := range append(numbers(), len(s)-1, len(s), len(s)+1) {
			ahead := s[:min(max(n, 0), len(s))]
			want := at(1+strings.Count(ahead, "\n"), len(ahead)-strings.LastIndex(ahead, "\n"))
			if got := scan.Where(s, n); got != want {
				t.Fatalf("Where(%q, %d): %v, want %v", s, n, got, want)
			}
		}
	}
}

// P10.6
func TestJoin(t *testing.T) {
	tests := []struct {
		l    []api.Line
		want string
	}{
		{nil, ""}, {[]api.Line{}, ""}, {numbered(""), "\n"}, {numbered("", ""), "\n\n"}, {numbered("a"), "a\n"}, {numbered("a", "b"), "a\nb\n"}, {numbered("a", "", " b\t"), "a\n\n b\t\n"},
		{[]api.Line{{No: 7, Text: "a"}, {No: 7, Text: "b"}, {No: -3, Text: "c"}}, "a\nb\nc\n"},
		{numbered("a\n", "b"), "a\n\nb\n"}, {numbered("a\r", "\r"), "a\r\n\r\n"}, {numbered("\xff", "\u20ac", "\x00"), "\xff\n\u20ac\n\x00\n"},
	}
	for _, c := range tests {
		if got := scan.Join(c.l); got != c.want {
			t.Errorf("Join(%#v): %q, want %q", c.l, got, c.want)
		}
	}
}

// P10.9: joined lines are parted into the same, if none has a byte 10, or ends with 13.
func TestJoinedLinesArePartedIntoTheSame(t *testing.T) {
	random := rand.New(rand.NewSource(11))
	parts := short("a\r; ", 4)
	for _, text := range parts {
		isParted(t, text)
		isParted(t, text, text, "")
	}
	for range 2000 {
		l := make([]string, random.Intn(8))
		for i := range l {
			l[i] = parts[random.Intn(len(parts))]
		}
		isParted(t, l...)
	}
	for _, s := range texts() {
		isParted(t, lines(s)...)
	}
}

// isParted checks that lines that say this, but for bytes 13 at their ends, are the same when they are joined and parted.
func isParted(t *testing.T, l ...string) {
	t.Helper()
	made := numbered(l...)
	for i := range made {
		made[i].Text = strings.TrimRight(made[i].Text, "\r")
	}
	joined := scan.Join(made)
	if got := scan.Lines(joined); !slices.Equal(got, made) {
		t.Fatalf("Lines(%q): %#v, want %#v", joined, got, made)
	}
	if got := scan.Count(joined); got != len(made) {
		t.Fatalf("Count(%q): %d, want %d", joined, got, len(made))
	}
}

// P10.7
func TestShow(t *testing.T) {
	const s = "ab\ncde\r\n\n\tf\r\r\nlast"
	tests := []struct {
		s    string
		p    api.Pos
		want string
	}{
		{s, at(1, 1), "1: ab\n   ^\n"}, {s, at(1, 2), "1: ab\n    ^\n"}, {s, at(1, 3), "1: ab\n     ^\n"}, {s, at(1, 4), "1: ab\n     ^\n"}, {s, at(1, math.MaxInt), "1: ab\n     ^\n"}, {s, at(1, 0), "1: ab\n   ^\n"}, {s, at(1, -1), "1: ab\n   ^\n"}, {s, at(1, math.MinInt), "1: ab\n   ^\n"},
		{s, at(2, 3), "2: cde\n     ^\n"}, {s, at(2, 4), "2: cde\n      ^\n"}, {s, at(2, 5), "2: cde\n      ^\n"},
		{s, at(3, 1), "3: \n   ^\n"}, {s, at(3, 2), "3: \n   ^\n"}, {s, at(4, 1), "4: \tf\r\n   ^\n"}, {s, at(4, 2), "4: \tf\r\n    ^\n"}, {s, at(4, 4), "4: \tf\r\n      ^\n"}, {s, at(4, 5), "4: \tf\r\n      ^\n"}, {s, at(5, 5), "5: last\n       ^\n"},
		{s, at(6, 1), "6: \n   ^\n"}, {s, at(6, 9), "6: \n   ^\n"}, {s, at(10, 2), "10: \n    ^\n"}, {s, at(math.MaxInt, 2), "9223372036854775807: \n" + strings.Repeat(" ", 21) + "^\n"},
		{s, at(0, 3), "0: \n   ^\n"}, {s, at(-1, 3), "0: \n   ^\n"}, {s, at(-100, 1), "0: \n   ^\n"}, {s, at(math.MinInt, math.MinInt), "0: \n   ^\n"}, {s, at(math.MinInt, math.MaxInt), "0: \n   ^\n"},
		{"", at(1, 1), "1: \n   ^\n"}, {"", at(0, 0), "0: \n   ^\n"}, {"", at(12, 5), "12: \n    ^\n"}, {"\n", at(2, 1), "2: \n   ^\n"}, {"a\n", at(2, 1), "2: \n   ^\n"}, {"a\n", at(3, 1), "3: \n   ^\n"}, {"\r", at(1, 2), "1: \n   ^\n"},
		{"\u20acx", at(1, 4), "1: \u20acx\n      ^\n"}, {"\xff\xfe", at(1, 2), "1: \xff\xfe\n    ^\n"},
		{strings.Repeat("\n", 9) + "ten\n", at(10, 2), "10: ten\n     ^\n"}, {strings.Repeat("\n", 99) + "x", at(100, 1), "100: x\n     ^\n"},
	}
	for _, c := range tests {
		if got := scan.Show(c.s, c.p); got != c.want {
			t.Errorf("Show(%q, %v): %q, want %q", c.s, c.p, got, c.want)
		}
	}
}

// shown answers what Show is to tell.
func shown(s string, p api.Pos) string {
	text := ""
	if l := lines(s); p.Line >= 1 && p.Line <= len(l) {
		text = l[p.Line-1]
	}
	number := fmt.Sprintf("%d: ", max(p.Line, 0))
	ahead := ""
	if p.Col > 1 {
		ahead = text[:min(p.Col-1, len(text))]
	}
	return number + text + "\n" + strings.Repeat(" ", len(number)+len(ahead)) + "^\n"
}

// offset answers what Offset is to tell.
func offset(s string, p api.Pos) int {
	l := begins(s)
	if p.Line < 1 || p.Line > len(l) || p.Col < 1 {
		return -1
	}
	for i := l[p.Line-1]; i <= len(s); i++ {
		if i-l[p.Line-1]+1 == p.Col {
			return i
		}
	}
	return -1
}

// P10.7, P10.8: all places of texts, and those beside them.
func TestAllPlaces(t *testing.T) {
	for _, s := range texts() {
		for _, line := range numbers() {
			for _, col := range numbers() {
				p := at(line, col)
				if got, want := scan.Offset(s, p), offset(s, p); got != want {
					t.Fatalf("Offset(%q, %v): %d, want %d", s, p, got, want)
				}
				if got, want := scan.Show(s, p), shown(s, p); got != want {
					t.Fatalf("Show(%q, %v): %q, want %q", s, p, got, want)
				}
			}
		}
	}
}

// P10.8
func TestOffset(t *testing.T) {
	tests := []struct {
		s    string
		p    api.Pos
		want int
	}{
		{"ab\ncd", at(1, 1), 0}, {"ab\ncd", at(1, 2), 1}, {"ab\ncd", at(1, 3), 2}, {"ab\ncd", at(1, 4), 3}, {"ab\ncd", at(1, 6), 5}, {"ab\ncd", at(1, 7), -1}, {"ab\ncd", at(1, 0), -1}, {"ab\ncd", at(1, -1), -1},
		{"ab\ncd", at(2, 1), 3}, {"ab\ncd", at(2, 2), 4}, {"ab\ncd", at(2, 3), 5}, {"ab\ncd", at(2, 4), -1}, {"ab\ncd", at(2, 0), -1}, {"ab\ncd", at(2, -2), -1}, {"ab\ncd", at(3, 1), -1}, {"ab\ncd", at(0, 1), -1}, {"ab\ncd", at(-1, 1), -1},
		{"", at(1, 1), 0}, {"", at(1, 2), -1}, {"", at(1, 0), -1}, {"", at(2, 1), -1}, {"", at(0, 1), -1}, {"", at(0, 0), -1},
		{"\n", at(1, 1), 0}, {"\n", at(1, 2), 1}, {"\n", at(1, 3), -1}, {"\n", at(2, 1), 1}, {"\n", at(2, 2), -1}, {"\n", at(3, 1), -1}, {"a\n", at(2, 1), 2}, {"a\n", at(2, 0), -1}, {"a\n", at(3, 1), -1}, {"a\n\n", at(3, 1), 3},
		{"a\r\nb", at(1, 2), 1}, {"a\r\nb", at(1, 3), 2}, {"a\r\nb", at(2, 1), 3}, {"a\rb", at(2, 1), -1}, {"\u20acb", at(1, 4), 3},
		{"ab\ncd", at(1, math.MaxInt), -1}, {"ab\ncd", at(2, math.MaxInt), -1}, {"ab\ncd", at(1, math.MinInt), -1}, {"ab\ncd", at(math.MaxInt, 1), -1}, {"ab\ncd", at(math.MinInt, 1), -1}, {"ab\ncd", at(math.MinInt, math.MinInt), -1}, {"ab\ncd", at(math.MaxInt, math.MaxInt), -1},
	}
	for _, c := range tests {
		if got := scan.Offset(c.s, c.p); got != c.want {
			t.Errorf("Offset(%q, %v): %d, want %d", c.s, c.p, got, c.want)
		}
	}
}

// P10.10: each place of a byte, and that behind the last one, has that byte as its offset; no two have the same.
func TestPlacesHaveTheirBytes(t *testing.T) {
	for _, s := range texts() {
		places := map[api.Pos]int{}
		for i := range len(s) + 1 {
			p := scan.Where(s, i)
			if got := scan.Offset(s, p); got != i {
				t.Fatalf("%q: the byte %d is at %v, which is the byte %d", s, i, p, got)
			}
			places[p]++
		}
		if len(places) != len(s)+1 {
			t.Fatalf("%q: %d places of %d bytes", s, len(places), len(s))
		}
	}
}

// P10.1, P10.5: each line's bytes stand from its place on.
func TestLinesStandAtTheirPlaces(t *testing.T) {
	for _, s := range texts() {
		for _, line := range scan.Lines(s) {
			from := scan.Offset(s, at(line.No, 1))
			if from < 0 || !strings.HasPrefix(s[from:], line.Text) {
				t.Fatalf("%q: the line %#v begins at %d", s, line, from)
			}
			if got := scan.Where(s, from); got != at(line.No, 1) {
				t.Fatalf("%q: the line %#v is at %v", s, line, got)
			}
		}
	}
}

// R3: what is answered is new, and what is handed in stays as it is, with the room behind it.
func TestMemoryIsNew(t *testing.T) {
	const s = "a\nb\r\nc"
	got := scan.Lines(s)
	for i := range got[:cap(got)] {
		got[:cap(got)][i] = api.Line{No: -1, Text: "x"}
	}
	if again := scan.Lines(s); !slices.Equal(again, numbered("a", "b", "c")) {
		t.Errorf("Lines answers %#v after what it answered was changed", again)
	}
	room := numbered("a", "b", "c", "d")
	scan.Join(room[:2])
	if !slices.Equal(room, numbered("a", "b", "c", "d")) {
		t.Errorf("Join changes what is handed in, or the room behind it: %#v", room)
	}
}

// R1: texts of any bytes are gone through to their ends, in time that their length alone takes.
func TestLongTexts(t *testing.T) {
	const times = 1 << 20
	for _, part := range []string{"\n", "\r\n", "a\n", "\xff;\r\n", "\u20ac\r\r\n"} {
		s := strings.Repeat(part, times)
		l := scan.Lines(s)
		if len(l) != times || scan.Count(s) != times || l[times-1] != (api.Line{No: times, Text: lines(part)[0]}) {
			t.Errorf("%q so often has %d lines", part, len(l))
		}
		if got := scan.Where(s, math.MaxInt); got != at(times+1, 1) || scan.Offset(s, got) != len(s) {
			t.Errorf("%q so often ends at %v", part, got)
		}
		if got, want := scan.Show(s, at(times, 1)), shown(s, at(times, 1)); got != want {
			t.Errorf("Show of %q so often: %q, want %q", part, got, want)
		}
		if got := scan.Join(l); scan.Count(got) != times {
			t.Errorf("Join of %q so often has %d lines", part, scan.Count(got))
		}
	}
	for _, part := range []string{"a", "\r", "\xff", " "} {
		s := strings.Repeat(part, times)
		if got := scan.Lines(s); len(got) != 1 || got[0].Text != strings.TrimSuffix(s, "\r") {
			t.Errorf("%q so often has %d lines", part, len(got))
		}
		if got := scan.Where(s, math.MaxInt); got != at(1, times+1) || scan.Offset(s, got) != times || scan.Offset(s, at(1, times+2)) != -1 {
			t.Errorf("%q so often ends at %v", part, got)
		}
		if got, want := scan.Show(s, at(1, math.MaxInt)), shown(s, at(1, math.MaxInt)); got != want {
			t.Errorf("Show of %q so often is not what it is to be", part)
		}
	}
}
