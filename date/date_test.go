package date_test

import (
	"fmt"
	"math"
	"regexp"
	"slices"
	"testing"
	"time"

	"quittance/api"
	"quittance/date"
)

// count is how many days there are.
const count = 3_652_059

// day answers the day of that year, month and day of the month.
func day(year, month, day int) api.Date {
	return api.Date{Year: year, Month: month, Day: day}
}

// first and last are the ends of all days.
func first() api.Date { return day(1, 1, 1) }
func last() api.Date  { return day(9999, 12, 31) }

// clock answers d as the library's own days tell it.
func clock(d api.Date) time.Time {
	return time.Date(d.Year, time.Month(d.Month), d.Day, 0, 0, 0, 0, time.UTC)
}

// told answers the library's own day t.
func told(t time.Time) api.Date {
	return day(t.Year(), int(t.Month()), t.Day())
}

// all answers all days in order, as the library tells them.
func all() []api.Date {
	l := make([]api.Date, 0, count)
	for t := clock(first()); t.Year() <= 9999; t = t.AddDate(0, 0, 1) {
		l = append(l, told(t))
	}
	return l
}

// samples answers days of all months of some years, the ends of them among them.
func samples() []api.Date {
	var l []api.Date
	for _, year := range []int{1, 2, 3, 4, 5, 100, 400, 1582, 1899, 1900, 1901, 1999, 2000, 2001, 2023, 2024, 2025, 2100, 9996, 9998, 9999} {
		for month := 1; month <= 12; month++ {
			for _, n := range []int{1, 2, 15, 27, 28, 29, 30, 31} {
				if d := day(year, month, n); told(clock(d)) == d {
					l = append(l, d)
				}
			}
		}
	}
	return l
}

// wrong answers days that are not right.
func wrong() []api.Date {
	l := []api.Date{
		{}, day(2024, 0, 0), day(0, 1, 1), day(2024, 0, 1), day(2024, 1, 0), day(-1, 1, 1), day(2024, -1, 1), day(2024, 1, -1), day(10000, 1, 1), day(2024, 13, 1),
		day(2023, 2, 29), day(1900, 2, 29), day(2100, 2, 29), day(2024, 2, 30), day(2000, 2, 30), day(2023, 2, 31), day(9999, 12, 32), day(1, 1, 0), day(0, 12, 31), day(-4, 2, 29), day(0, 2, 29),
	}
	for month, most := range []int{31, 29, 31, 30, 31, 30, 31, 31, 30, 31, 30, 31} {
		l = append(l, day(2024, month+1, most+1), day(2024, month+1, 0))
	}
	for _, n := range []int{math.MinInt, math.MinInt + 1, -1, 0, 10_000, math.MaxInt - 1, math.MaxInt} {
		l = append(l, day(n, 1, 1), day(n, 2, 29), day(n, 12, 31), day(2024, n, 1), day(2024, 1, n), day(n, n, n))
	}
	return l
}

// P8.1
func TestLeap(t *testing.T) {
	tests := []struct {
		year int
		want bool
	}{
		{1, false}, {2, false}, {3, false}, {4, true}, {5, false}, {96, true}, {100, false}, {104, true}, {200, false}, {300, false}, {400, true}, {800, true}, {1000, false},
		{1600, true}, {1700, false}, {1800, false}, {1900, false}, {1996, true}, {1999, false}, {2000, true}, {2004, true}, {2022, false}, {2023, false}, {2024, true}, {2100, false}, {2400, true}, {9996, true}, {9999, false},
		{0, true}, {-1, false}, {-4, true}, {-100, false}, {-400, true}, {10000, true}, {10100, false}, {math.MaxInt, false}, {math.MaxInt - 3, true}, {math.MinInt, math.MinInt%100 != 0}, {math.MinInt + 1, false},
	}
	for _, c := range tests {
		if got := date.Leap(c.year); got != c.want {
			t.Errorf("Leap(%d): %t, want %t", c.year, got, c.want)
		}
	}
	for year := 1; year <= 9999; year++ {
		if got, want := date.Leap(year), clock(day(year, 12, 31)).YearDay() == 366; got != want {
			t.Errorf("Leap(%d): %t, want %t", year, got, want)
		}
	}
}

// P8.2: of all years, months and days, and of more than there are of each.
func TestRight(t *testing.T) {
	n := 0
	for year := -1; year <= 10_001; year++ {
		for month := -1; month <= 14; month++ {
			for i := -1; i <= 33; i++ {
				if date.Right(day(year, month, i)) {
					n++
				}
			}
		}
	}
	if n != count {
		t.Errorf("%d days are right, want %d", n, count)
	}
	for _, d := range all() {
		if !date.Right(d) {
			t.Errorf("%v is not right", d)
		}
	}
	for _, d := range wrong() {
		if date.Right(d) {
			t.Errorf("%v is right", d)
		}
	}
	if !date.Right(day(2024, 2, 29)) || date.Right(day(2023, 2, 29)) {
		t.Error("the examples are not kept")
	}
}

// P8.3
func TestCmp(t *testing.T) {
	rising := []api.Date{
		day(math.MinInt, math.MaxInt, math.MaxInt), day(-1, 1, 1), {}, day(0, 0, 1), day(0, 1, 0), day(1, 1, 1), day(1, 1, 2), day(1, 2, 1), day(2, 1, 1), day(2023, 12, 31),
		day(2024, math.MinInt, 5), day(2024, 1, math.MinInt), day(2024, 1, 1), day(2024, 1, 31), day(2024, 1, 40), day(2024, 1, math.MaxInt), day(2024, 2, 1), day(2024, 2, 29), day(2024, 3, 1), day(2024, 10, 9), day(2024, 12, 1), day(2024, 13, 0), day(2025, 1, 1),
		day(9999, 12, 31), day(math.MaxInt, math.MinInt, 0), day(math.MaxInt, math.MaxInt, math.MaxInt),
	}
	for i, a := range rising {
		for j, b := range rising {
			want := 0
			switch {
			case i < j:
				want = -1
			case i > j:
				want = 1
			}
			if got := date.Cmp(a, b); got != want {
				t.Errorf("Cmp(%v, %v): %d, want %d", a, b, got, want)
			}
		}
	}
	for _, a := range samples() {
		for _, b := range samples() {
			if got, want := date.Cmp(a, b), clock(a).Compare(clock(b)); got != want {
				t.Errorf("Cmp(%v, %v): %d, want %d", a, b, got, want)
			}
		}
	}
}

// P8.4, P8.5, P8.6, P8.7, P8.8, P8.9, P8.10, P8.16: all days, one after the other, held against the library's own.
func TestAllDays(t *testing.T) {
	days := all()
	if len(days) != count {
		t.Fatalf("%d days, want %d", len(days), count)
	}
	for i, d := range days {
		n := i + 1
		if got := date.Days(d); got != n {
			t.Fatalf("Days(%v): %d, want %d", d, got, n)
		}
		isDay(t, "Of", n, d, fit(date.Of(n)))
		if got := date.Weekday(d); got != i%7+1 {
			t.Fatalf("Weekday(%v): %d, want %d", d, got, i%7+1)
		}
		isDay(t, "Parse", date.Text(d), d, fit(date.Parse(date.Text(d))))
		if i == 0 {
			continue
		}
		isDay(t, "Next", days[i-1], d, fit(date.Next(days[i-1])))
		isDay(t, "Ahead", d, days[i-1], fit(date.Ahead(d)))
		if date.Cmp(days[i-1], d) != -1 || date.Cmp(d, days[i-1]) != 1 {
			t.Fatalf("%v is not ahead of %v", days[i-1], d)
		}
	}
}

// result is a day and an error.
type result struct {
	day api.Date
	err api.Errno
}

// fit answers both as one.
func fit(d api.Date, err api.Errno) result { return result{d, err} }

// isDay checks that a call of what answered that day.
func isDay(t *testing.T, call string, what any, want api.Date, got result) {
	t.Helper()
	if got.day != want || got.err != api.OK {
		t.Fatalf("%s(%v): %v, %d, want %v", call, what, got.day, got.err, want)
	}
}

// isNone checks that a call of what answered that error, and no day.
func isNone(t *testing.T, call string, what any, want api.Errno, got result) {
	t.Helper()
	if got.day != (api.Date{}) || got.err != want {
		t.Errorf("%s(%v): %v, %d, want none and %d", call, what, got.day, got.err, want)
	}
}

// P8.4
func TestDays(t *testing.T) {
	tests := []struct {
		d    api.Date
		want int
	}{
		{first(), 1}, {day(1, 1, 2), 2}, {day(1, 1, 31), 31}, {day(1, 2, 1), 32}, {day(1, 12, 31), 365}, {day(2, 1, 1), 366}, {day(4, 12, 31), 1461}, {day(100, 12, 31), 36524}, {day(400, 12, 31), 146097},
		{day(1970, 1, 1), 719163}, {day(2000, 2, 29), 730179}, {day(2024, 1, 1), 738886}, {last(), count},
	}
	for _, c := range tests {
		if got := date.Days(c.d); got != c.want {
			t.Errorf("Days(%v): %d, want %d", c.d, got, c.want)
		}
	}
	for _, d := range wrong() {
		if got := date.Days(d); got != 0 {
			t.Errorf("Days(%v): %d", d, got)
		}
	}
}

// P8.5
func TestOf(t *testing.T) {
	isDay(t, "Of", 1, first(), fit(date.Of(1)))
	isDay(t, "Of", 719163, day(1970, 1, 1), fit(date.Of(719163)))
	isDay(t, "Of", count, last(), fit(date.Of(count)))
	for _, n := range []int{math.MinInt, math.MinInt + 1, math.MinInt32, -count, -1, 0, count + 1, count + 365, math.MaxInt32, math.MaxInt - 1, math.MaxInt} {
		isNone(t, "Of", n, api.ErrArg, fit(date.Of(n)))
	}
}

// P8.6, P8.7
func TestNextAndAhead(t *testing.T) {
	tests := []struct{ ahead, behind api.Date }{
		{first(), day(1, 1, 2)}, {day(2024, 1, 1), day(2024, 1, 2)}, {day(2024, 1, 31), day(2024, 2, 1)}, {day(2024, 2, 28), day(2024, 2, 29)}, {day(2024, 2, 29), day(2024, 3, 1)}, {day(2023, 2, 28), day(2023, 3, 1)},
		{day(1900, 2, 28), day(1900, 3, 1)}, {day(2000, 2, 28), day(2000, 2, 29)}, {day(2024, 4, 30), day(2024, 5, 1)}, {day(2023, 12, 31), day(2024, 1, 1)}, {day(9999, 12, 30), last()},
	}
	for _, c := range tests {
		isDay(t, "Next", c.ahead, c.behind, fit(date.Next(c.ahead)))
		isDay(t, "Ahead", c.behind, c.ahead, fit(date.Ahead(c.behind)))
	}
	isNone(t, "Next", last(), api.ErrArg, fit(date.Next(last())))
	isNone(t, "Ahead", first(), api.ErrArg, fit(date.Ahead(first())))
	for _, d := range wrong() {
		isNone(t, "Next", d, api.ErrArg, fit(date.Next(d)))
		isNone(t, "Ahead", d, api.ErrArg, fit(date.Ahead(d)))
	}
}

// P8.8
func TestText(t *testing.T) {
	tests := []struct {
		d    api.Date
		want string
	}{
		{first(), "0001-01-01"}, {day(12, 3, 4), "0012-03-04"}, {day(123, 10, 9), "0123-10-09"}, {day(2024, 2, 29), "2024-02-29"}, {day(2026, 11, 19), "2026-11-19"}, {last(), "9999-12-31"},
	}
	for _, c := range tests {
		if got := date.Text(c.d); got != c.want {
			t.Errorf("Text(%v): %q, want %q", c.d, got, c.want)
		}
	}
	for _, d := range samples() {
		if got, want := date.Text(d), fmt.Sprintf("%04d-%02d-%02d", d.Year, d.Month, d.Day); got != want {
			t.Errorf("Text(%v): %q, want %q", d, got, want)
		}
	}
	for _, d := range wrong() {
		if got := date.Text(d); got != "" {
			t.Errorf("Text(%v): %q", d, got)
		}
	}
}

// P8.9
func TestParse(t *testing.T) {
	for _, d := range samples() {
		for _, form := range []string{"%04d-%02d-%02d", "%04d/%02d/%02d"} {
			s := fmt.Sprintf(form, d.Year, d.Month, d.Day)
			isDay(t, "Parse", s, d, fit(date.Parse(s)))
		}
	}
	for _, s := range []string{
		"", "-", "--", "//", "2024", "2024-02", "2024-02-", "2024-02-2", "2024-02-299", "12024-02-29", "24-02-29", "2024-2-29", "2024-2-2", "02024-02-29", "2024-002-29", "2024-02-029", "20240229", "2024022900", "0229-2024-1", "29-02-2024", "202-402-29", "20240-2-29",
		"2024-02/29", "2024/02-29", "2024.02.29", "2024 02 29", "2024:02:29", "2024_02_29", "2024\\02\\29", "2024002029", "2024-02029", "2024a02a29",
		" 2024-02-29", "2024-02-29 ", "2024-02-29\n", "\t2024-02-2", " 024-02-29", "2024- 2-29", "2024-02- 9", "2024-02-2 ",
		"+024-02-29", "-024-02-29", "2024-+2-29", "2024--2-29", "2024-02-+9", "2024-02--9", "-2024-02-2", "2024--02-2", "0x24-02-29", "2e24-02-29", "2_24-02-29", "20,4-02-29", "2.24-02-29",
		"a024-02-29", "202a-02-29", "2024-a2-29", "2024-0a-29", "2024-02-a9", "2024-02-2a", "202:-02-29", "2024-02-2:", "2024-0:-01",
		"0000-01-01", "0000-00-00", "0000-12-31", "2024-00-01", "2024-01-00", "2024-13-01", "2024-20-01", "2024-99-01", "2024-01-32", "2024-01-99", "2024-04-31", "2024-06-31", "2024-09-31", "2024-11-31", "2024-02-30", "2023-02-29", "1900-02-29", "2100-02-29", "2023/02/29", "2024/13/01",
		"10000-01-01", "9999-12-32", "0001-01-0", "\xff024-02-29", "2024-02-2\xff", "2024\xc2\xad02", "\u06624-02-29", "\u0662\u0660-01-1", "2024\u201002-9", "2024-02\u201029", "\uff12024-02-2", "2024-0\uff12-2", "\x002024-02-2", "2024-02-2\x00",
	} {
		isNone(t, "Parse", fmt.Sprintf("%q", s), api.ErrForm, fit(date.Parse(s)))
	}
}

// P8.9: each byte in each place of a day, held against the form as an expression says it.
func TestParseOfEachByte(t *testing.T) {
	form := regexp.MustCompile(`^([0-9]{4}-[0-9]{2}-[0-9]{2}|[0-9]{4}/[0-9]{2}/[0-9]{2})$`)
	for _, s := range []string{"2024-02-29", "2023/11/30", "0001-01-01", "9999/12/31"} {
		for at := range len(s) {
			for n := range 256 {
				changed := s[:at] + string([]byte{byte(n)}) + s[at+1:]
				isParsed(t, changed, form)
				isParsed(t, s[:at]+string([]byte{byte(n)})+s[at:], form)
			}
			isParsed(t, s[:at]+s[at+1:], form)
			isParsed(t, s[:at], form)
		}
	}
}

// isParsed checks that s is read as a day if it has that form, and the library knows that day.
func isParsed(t *testing.T, s string, form *regexp.Regexp) {
	t.Helper()
	if form.MatchString(s) {
		if d := (api.Date{Year: atoi(s[:4]), Month: atoi(s[5:7]), Day: atoi(s[8:])}); d.Year > 0 && told(clock(d)) == d {
			isDay(t, "Parse", s, d, fit(date.Parse(s)))
			return
		}
	}
	isNone(t, "Parse", fmt.Sprintf("%q", s), api.ErrForm, fit(date.Parse(s)))
}

// atoi answers what digits say.
func atoi(s string) int {
	n := 0
	for _, sign := range s {
		n = n*10 + int(sign-'0')
	}
	return n
}

// P8.10
func TestWeekday(t *testing.T) {
	if date.Weekday(first()) != 1 || date.Weekday(day(1, 1, 7)) != 7 || date.Weekday(day(1, 1, 8)) != 1 || date.Weekday(day(2026, 11, 19)) != 4 || date.Weekday(last()) != 5 {
		t.Error("a known day has another one")
	}
	for _, d := range samples() {
		want := int(clock(d).Weekday())
		if want == 0 {
			want = 7
		}
		if got := date.Weekday(d); got != want {
			t.Errorf("Weekday(%v): %d, want %d", d, got, want)
		}
	}
	for _, d := range wrong() {
		if got := date.Weekday(d); got != 0 {
			t.Errorf("Weekday(%v): %d", d, got)
		}
	}
}

// P8.11
func TestMonthEnd(t *testing.T) {
	for _, d := range append(samples(), day(2023, 2, 1), day(2024, 2, 1), day(2024, 2, 29), day(1900, 2, 28), day(2000, 2, 3), first(), last()) {
		want := told(time.Date(d.Year, time.Month(d.Month)+1, 0, 0, 0, 0, 0, time.UTC))
		if got := date.MonthEnd(d); got != want {
			t.Errorf("MonthEnd(%v): %v, want %v", d, got, want)
		}
	}
	for _, d := range wrong() {
		if got := date.MonthEnd(d); got != (api.Date{}) {
			t.Errorf("MonthEnd(%v): %v", d, got)
		}
	}
}

// P8.12
func TestMonths(t *testing.T) {
	tests := []struct {
		a, b api.Date
		want int
	}{
		{day(2024, 1, 31), day(2024, 1, 1), 0}, {day(2024, 1, 31), day(2024, 2, 1), 1}, {day(2024, 1, 1), day(2024, 2, 29), 1}, {day(2023, 12, 31), day(2024, 1, 1), 1}, {day(2024, 1, 1), day(2023, 12, 31), -1},
		{day(2024, 11, 19), day(2026, 2, 1), 15}, {day(2026, 2, 1), day(2024, 11, 19), -15}, {first(), last(), 119987}, {last(), first(), -119987},
	}
	for _, c := range tests {
		if got := date.Months(c.a, c.b); got != c.want {
			t.Errorf("Months(%v, %v): %d, want %d", c.a, c.b, got, c.want)
		}
	}
	for _, a := range samples() {
		for _, b := range samples() {
			if got, want := date.Months(a, b), (b.Year-a.Year)*12+b.Month-a.Month; got != want {
				t.Errorf("Months(%v, %v): %d, want %d", a, b, got, want)
			}
		}
	}
	for _, d := range wrong() {
		for _, other := range append(wrong(), first(), last()) {
			if date.Months(d, other) != 0 || date.Months(other, d) != 0 {
				t.Errorf("Months(%v, %v) is not 0", d, other)
			}
		}
	}
}

// P8.13
func TestAdd(t *testing.T) {
	tests := []struct {
		d      api.Date
		months int
		want   api.Date
	}{
		{day(2024, 1, 31), 0, day(2024, 1, 31)}, {day(2024, 1, 31), 1, day(2024, 2, 29)}, {day(2023, 1, 31), 1, day(2023, 2, 28)}, {day(2023, 1, 29), 1, day(2023, 2, 28)}, {day(2024, 1, 30), 1, day(2024, 2, 29)}, {day(2024, 1, 31), 2, day(2024, 3, 31)}, {day(2024, 1, 31), 3, day(2024, 4, 30)},
		{day(2024, 2, 29), 12, day(2025, 2, 28)}, {day(2024, 2, 29), 48, day(2028, 2, 29)}, {day(2024, 2, 29), -12, day(2023, 2, 28)}, {day(2024, 2, 29), 1, day(2024, 3, 29)}, {day(2024, 3, 31), -1, day(2024, 2, 29)}, {day(1900, 3, 31), -1, day(1900, 2, 28)}, {day(2024, 5, 31), -1, day(2024, 4, 30)},
		{day(2024, 12, 31), 1, day(2025, 1, 31)}, {day(2024, 1, 15), -1, day(2023, 12, 15)}, {day(2024, 12, 15), 12, day(2025, 12, 15)}, {day(2024, 12, 15), -12, day(2023, 12, 15)}, {day(2024, 1, 1), 23, day(2025, 12, 1)}, {day(2024, 1, 1), -24, day(2022, 1, 1)},
		{first(), 119987, day(9999, 12, 1)}, {last(), -119987, day(1, 1, 31)}, {day(9999, 11, 30), 1, day(9999, 12, 30)}, {day(1, 2, 28), -1, day(1, 1, 28)},
	}
	for _, c := range tests {
		isDay(t, "Add", c, c.want, fit(date.Add(c.d, c.months)))
	}
	refused := []struct {
		d      api.Date
		months int
	}{
		{first(), -1}, {last(), 1}, {day(9999, 12, 1), 1}, {day(1, 1, 31), -1}, {first(), 119988}, {last(), -119988}, {first(), 120000}, {last(), -120000}, {first(), 120001}, {last(), -120001}, {day(5000, 6, 15), 120000}, {day(5000, 6, 15), -120000}, {day(1, 12, 31), -12}, {day(9999, 1, 1), 12}, {day(9998, 12, 31), 13},
		{day(2024, 1, 1), math.MaxInt}, {day(2024, 1, 1), math.MinInt}, {day(2024, 1, 1), math.MaxInt32}, {day(2024, 1, 1), math.MinInt32}, {last(), math.MaxInt}, {first(), math.MinInt},
	}
	for _, c := range refused {
		isNone(t, "Add", c, api.ErrArg, fit(date.Add(c.d, c.months)))
	}
	for _, d := range wrong() {
		for _, months := range []int{0, 1, -1, 12, -120000, 120000, math.MinInt, math.MaxInt} {
			isNone(t, "Add", d, api.ErrArg, fit(date.Add(d, months)))
		}
	}
}

// P8.13, P8.17: months that are added are there, with the same day of the month, or the last one, if there is no such day.
func TestAddedMonthsAreThere(t *testing.T) {
	for _, d := range samples() {
		for _, months := range []int{0, 1, 2, 3, 5, 11, 12, 13, 24, 47, 48, 49, 100, 1199, 1200, 1201, 4800, 60000, 119987, 119988, 120000} {
			isAdded(t, d, months)
			isAdded(t, d, -months)
		}
	}
}

// isAdded checks what Add answers of d and months.
func isAdded(t *testing.T, d api.Date, months int) {
	t.Helper()
	got, err := date.Add(d, months)
	month := time.Date(d.Year, time.Month(d.Month+months), 1, 0, 0, 0, 0, time.UTC)
	if month.Year() < 1 || month.Year() > 9999 {
		isNone(t, "Add", []any{d, months}, api.ErrArg, fit(got, err))
		return
	}
	end := month.AddDate(0, 1, -1).Day()
	isDay(t, "Add", []any{d, months}, day(month.Year(), int(month.Month()), min(d.Day, end)), fit(got, err))
	if date.Months(d, got) != months || !date.Right(got) {
		t.Errorf("%v is not %d months behind %v", got, months, d)
	}
}

// P8.14
func TestQuarter(t *testing.T) {
	for month, want := range []int{1, 1, 1, 2, 2, 2, 3, 3, 3, 4, 4, 4} {
		for _, d := range []api.Date{day(1, month+1, 1), day(2024, month+1, 28), date.MonthEnd(day(9999, month+1, 1))} {
			if got := date.Quarter(d); got != want {
				t.Errorf("Quarter(%v): %d, want %d", d, got, want)
			}
		}
	}
	for _, d := range wrong() {
		if got := date.Quarter(d); got != 0 {
			t.Errorf("Quarter(%v): %d", d, got)
		}
	}
}

// P8.15
func TestSplit(t *testing.T) {
	tests := []struct {
		from, to api.Date
		want     [][2]api.Date
	}{
		{day(2024, 1, 5), day(2024, 1, 5), [][2]api.Date{{day(2024, 1, 5), day(2024, 1, 5)}}},
		{day(2024, 1, 5), day(2024, 1, 20), [][2]api.Date{{day(2024, 1, 5), day(2024, 1, 20)}}},
		{day(2024, 1, 1), day(2024, 1, 31), [][2]api.Date{{day(2024, 1, 1), day(2024, 1, 31)}}},
		{day(2024, 1, 31), day(2024, 2, 1), [][2]api.Date{{day(2024, 1, 31), day(2024, 1, 31)}, {day(2024, 2, 1), day(2024, 2, 1)}}},
		{day(2024, 1, 15), day(2024, 3, 10), [][2]api.Date{{day(2024, 1, 15), day(2024, 1, 31)}, {day(2024, 2, 1), day(2024, 2, 29)}, {day(2024, 3, 1), day(2024, 3, 10)}}},
		{day(2023, 2, 28), day(2023, 3, 31), [][2]api.Date{{day(2023, 2, 28), day(2023, 2, 28)}, {day(2023, 3, 1), day(2023, 3, 31)}}},
		{day(2023, 12, 1), day(2024, 1, 31), [][2]api.Date{{day(2023, 12, 1), day(2023, 12, 31)}, {day(2024, 1, 1), day(2024, 1, 31)}}},
		{first(), first(), [][2]api.Date{{first(), first()}}}, {last(), last(), [][2]api.Date{{last(), last()}}},
		{day(9999, 11, 30), last(), [][2]api.Date{{day(9999, 11, 30), day(9999, 11, 30)}, {day(9999, 12, 1), last()}}},
		{day(2024, 1, 6), day(2024, 1, 5), nil}, {day(2024, 2, 1), day(2024, 1, 31), nil}, {last(), first(), nil},
	}
	for _, c := range tests {
		if got := date.Split(c.from, c.to); !slices.Equal(got, c.want) {
			t.Errorf("Split(%v, %v): %v, want %v", c.from, c.to, got, c.want)
		}
	}
	for _, d := range wrong() {
		for _, other := range append(wrong(), first(), day(2024, 1, 1), last()) {
			if got := append(date.Split(d, other), date.Split(other, d)...); len(got) > 0 {
				t.Errorf("Split of %v and %v: %v", d, other, got)
			}
		}
	}
}

// P8.15: at most 1200 months are told, the first ones.
func TestSplitOfManyMonths(t *testing.T) {
	tests := []struct {
		from, to, end api.Date
		want          int
	}{
		{day(1901, 1, 1), day(2000, 11, 30), day(2000, 11, 30), 1199}, {day(1901, 1, 31), day(2000, 12, 1), day(2000, 12, 1), 1200}, {day(1901, 1, 1), day(2000, 12, 31), day(2000, 12, 31), 1200},
		{day(1901, 1, 1), day(2001, 1, 1), day(2000, 12, 31), 1200}, {day(1901, 1, 31), day(2001, 2, 1), day(2000, 12, 31), 1200}, {first(), last(), day(100, 12, 31), 1200}, {day(9900, 1, 2), last(), last(), 1200}, {day(9899, 12, 31), last(), day(9999, 11, 30), 1200},
	}
	for _, c := range tests {
		got := date.Split(c.from, c.to)
		if len(got) != c.want || got[0][0] != c.from || got[len(got)-1][1] != c.end {
			t.Errorf("Split(%v, %v): %d months, from %v to %v", c.from, c.to, len(got), got[0], got[len(got)-1])
		}
		isWhole(t, got)
	}
}

// isWhole checks that all of l is of days that are right, each piece of one month, and each behind the one ahead of it without a gap.
func isWhole(t *testing.T, l [][2]api.Date) {
	t.Helper()
	for i, piece := range l {
		if !date.Right(piece[0]) || !date.Right(piece[1]) || date.Months(piece[0], piece[1]) != 0 || date.Cmp(piece[0], piece[1]) > 0 {
			t.Errorf("%v is no piece of a month", piece)
		}
		if i > 0 && (date.Days(piece[0]) != date.Days(l[i-1][1])+1 || date.Months(l[i-1][0], piece[0]) != 1) {
			t.Errorf("%v is not behind %v", piece, l[i-1])
		}
	}
}

// P8.15, P8.17: a split has each day from the one to the other once.
func TestSplitHasEachDayOnce(t *testing.T) {
	for _, from := range samples() {
		for _, to := range samples() {
			if date.Cmp(from, to) > 0 {
				if l := date.Split(from, to); len(l) > 0 {
					t.Fatalf("Split(%v, %v): %v", from, to, l)
				}
				continue
			}
			if date.Months(from, to) >= 60 {
				continue
			}
			l := date.Split(from, to)
			isWhole(t, l)
			if len(l) != date.Months(from, to)+1 || l[0][0] != from || l[len(l)-1][1] != to {
				t.Fatalf("Split(%v, %v): %v", from, to, l)
			}
		}
	}
}

// R3, R4: answers are the same again, and lists are new.
func TestMemoryIsNew(t *testing.T) {
	one := date.Split(day(2024, 1, 15), day(2025, 3, 10))
	two := date.Split(day(2024, 1, 15), day(2025, 3, 10))
	want := slices.Clone(two)
	if !slices.Equal(one, two) {
		t.Errorf("%v at first, and %v then", one, two)
	}
	clear(one[:cap(one)])
	if !slices.Equal(two, want) {
		t.Error("two answers share their room")
	}
}

// R1: days that are not right, with numbers at the ends of int among them, are taken by every call.
func TestNothingPanics(t *testing.T) {
	ends := []int{math.MinInt, math.MinInt + 1, -1, 0, 1, 2, 12, 13, 31, 9999, 10000, math.MaxInt - 1, math.MaxInt}
	for _, year := range ends {
		date.Leap(year)
		date.Of(year)
		for _, month := range ends {
			for _, n := range ends {
				d := day(year, month, n)
				date.Right(d)
				date.Cmp(d, first())
				date.Days(d)
				date.Next(d)
				date.Ahead(d)
				date.Text(d)
				date.Weekday(d)
				date.MonthEnd(d)
				date.Months(d, last())
				date.Months(last(), d)
				date.Add(d, n)
				date.Quarter(d)
				date.Split(first(), d)
				date.Split(d, last())
			}
		}
	}
}
