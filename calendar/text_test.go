package calendar_test

import (
	"fmt"
	"regexp"
	"strconv"
	"strings"
	"testing"

	"almucantar/api"
	"almucantar/calendar"
)

func wantText(t *testing.T, d api.Date, want string, wantErr api.Errno) {
	t.Helper()
	if got, e := calendar.Text(d); got != want || e != wantErr {
		t.Errorf("Text(%v) = %q, %d; want %q, %d", d, got, e, want, wantErr)
	}
}

func wantParsed(t *testing.T, s string, want api.Date, wantErr api.Errno) {
	t.Helper()
	if got, e := calendar.Parse(s); got != want || e != wantErr {
		t.Errorf("Parse(%.80q) = %v, %d; want %v, %d", s, got, e, want, wantErr)
	}
}

// P9.4: years, months and days with all numbers of leading zeros, and the first and the last date.
func TestTextExamples(t *testing.T) {
	for _, c := range []struct {
		d    api.Date
		want string
	}{
		{epoch, "2000-01-01"},
		{date(2024, 2, 29), "2024-02-29"},
		{first, "0001-01-01"},
		{date(4, 2, 29), "0004-02-29"},
		{date(10, 10, 10), "0010-10-10"},
		{date(99, 9, 9), "0099-09-09"},
		{date(987, 12, 1), "0987-12-01"},
		{date(1000, 1, 31), "1000-01-31"},
		{date(1900, 2, 28), "1900-02-28"},
		{last, "9999-12-31"},
	} {
		wantText(t, c.d, c.want, api.OK)
		wantParsed(t, c.want, c.d, api.OK)
	}
}

// P9.4: dates that are not valid.
func TestTextOfInvalidDates(t *testing.T) {
	for _, d := range badDates {
		wantText(t, d, "", api.ErrArg)
	}
}

// P9.4, P9.5: all valid dates have the texts that fmt prints, which are read back.
func TestTextsAreReadBack(t *testing.T) {
	for _, d := range allDates() {
		text := fmt.Sprintf("%04d-%02d-%02d", d.Year, d.Month, d.Day)
		wantText(t, d, text, api.OK)
		wantParsed(t, text, d, api.OK)
		if t.Failed() {
			return
		}
	}
}

// P9.4: texts of the form, for dates that do not exist: years of zeros, months and days from 00 to 99.
func TestParseOfMonthsAndDays(t *testing.T) {
	for _, year := range []int{0, 1, 4, 100, 400, 1900, 2000, 2023, 2024, 9999} {
		for month := range 100 {
			for day := range 100 {
				s := fmt.Sprintf("%04d-%02d-%02d", year, month, day)
				want, wantErr := parsed(s)
				wantParsed(t, s, want, wantErr)
			}
		}
	}
}

// P9.4: other lengths, signs, blanks, other hyphens and orders, digits that are no ASCII digits (some of them as long in bytes as the form), missing and superfluous zeros, and dates that do not exist.
func TestParseIsErrForm(t *testing.T) {
	for _, s := range []string{
		"", "-", "--", "---", "----------", "0", "2024", "2024-", "2024-02", "2024-02-", "-02-29", "--29", "2024--", "2024--29", "-2024-02-29", "20240229", "0000000000", "2024002029",
		"2024-02-2", "2024-02-290", "2024-02-29-", "2024-02-29 ", " 2024-02-29", "2024-02-29\n", "2024-02-29\x00", "2024-02-29 00:00:00", "2024-02-29T00:00:00Z", "2024-02-29-01", "x2024-02-29",
		"24-02-29", "024-02-29", "224-02-29", "4-02-29", "02024-02-29", "12024-02-29", "10000-01-01", "1-1-1", "001-001-01", "0001-001-1", "0001-1-001", "1-001-0001", "001-01-0001",
		"2024-2-29", "2024-2-9", "2024-02-9", "2024-2-029", "2024-002-9", "2024-002-29", "2024-02-029", "02024-2-29", "224-002-29",
		"+2024-02-29", "+024-02-29", "-024-02-29", "-001-01-01", "2024-+2-29", "2024-02-+9", "2024--2-29", "2024-02--9", "2024-02-9-", "2024-2--29", "2024--02-9",
		"2024 02 29", "2024/02/29", "2024.02.29", "2024:02:29", "2024_02_29", "2024-02/29", "2024/02-29", "2024-02 29", "2024 02-29",
		" 024-02-29", "202 -02-29", "2024- 2-29", "2024-2 -29", "2024-02- 9", "2024-02-9 ", "2024 -02-29", "2024- 02-29", "2024-02 -29", "2024-02- 29", "2024-\t2-29", "2024-02-\t9", "2024-02-9\n",
		"2024\u201002\u201029", "2024\u201102\u201129", "2024\u201302\u201329", "2024\u221202\u221229", "2024-02\u201029", "2024\u00ad02-9", "2024\u00ad2-29", "2024-02\u00ad9",
		"\uff12\uff10\uff12\uff14-\uff10\uff12-\uff12\uff19", "\u0662\u0660\u0662\u0664-\u0660\u0662-\u0662\u0669", "\u0662\u0664-02-29", "2024-\u0662-29", "2024-02-\u0669", "20\u00b2-02-29", "2024-\u00bd-29", "2024-02-\u00b2",
		"2e03-02-29", "0x7E-02-29", "1_00-02-28", "20.4-02-29", ".024-02-29", "202.-02-29", "2024-.2-29", "2024-2.-29", "2024-02-.9", "2024-02-9.", "2024-0x-29", "2024-02-1e", "2O24-02-29", "2024-02-2g", "2024-Feb-29", "2024-fe-29",
		"29-02-2024", "02-29-2024", "02-2024-29", "2024-29-02",
		"0000-01-01", "0000-02-29", "0000-00-00", "0000-12-31", "2024-00-01", "2024-01-00", "2024-00-00", "2024-13-01", "2024-99-01", "2024-01-32", "2024-01-99",
		"2024-02-30", "2024-02-31", "2023-02-29", "1900-02-29", "2100-02-29", "0100-02-29", "2024-04-31", "2024-06-31", "2024-09-31", "2024-11-31", "2024-12-32", "9999-12-32", "9999-13-01",
		strings.Repeat("0", 4096) + "-01-01", "2024-02-29" + strings.Repeat(" ", 100000), strings.Repeat("2024-02-29", 10000), strings.Repeat("-", 100000), strings.Repeat("9", 100000),
	} {
		wantParsed(t, s, noDate, api.ErrForm)
	}
}

var form = regexp.MustCompile(`\A([0-9]{4})-([0-9]{2})-([0-9]{2})\z`)

// parsed is what the form says of a string.
func parsed(s string) (api.Date, api.Errno) {
	parts := form.FindStringSubmatch(s)
	if parts == nil {
		return noDate, api.ErrForm
	}
	year, _ := strconv.Atoi(parts[1])
	month, _ := strconv.Atoi(parts[2])
	day, _ := strconv.Atoi(parts[3])
	d := date(year, month, day)
	if !isDate(d) {
		return noDate, api.ErrForm
	}
	return d, api.OK
}

// P9.4: texts of which each byte is left out, doubled, exchanged for any other one, or has any one before it.
func TestParseKnowsTheForm(t *testing.T) {
	check := func(s string) {
		want, wantErr := parsed(s)
		wantParsed(t, s, want, wantErr)
	}
	for _, s := range []string{"2024-02-29", "0001-01-01", "9999-12-31", "1999-11-30", "2000-10-10"} {
		check(s)
		for i := range len(s) {
			check(s[:i] + s[i+1:])
			check(s[:i])
			check(s[i:])
			for b := range 256 {
				other := string([]byte{byte(b)})
				check(s[:i] + other + s[i+1:])
				check(s[:i] + other + s[i:])
				check(s + other)
			}
		}
	}
}

// P9.4: any strings of about the length of the form, made of its own bytes and a few others.
func TestParseOfAnyTexts(t *testing.T) {
	const own = "0123456789012-+ ."
	r := newNumbers()
	for range rounds {
		s := []byte("2024-02-29")
		for range 1 + r.source.IntN(4) {
			s[r.source.IntN(len(s))] = own[r.source.IntN(len(own))]
		}
		text := string(s[:len(s)-r.source.IntN(8)/7])
		want, wantErr := parsed(text)
		wantParsed(t, text, want, wantErr)
	}
}
