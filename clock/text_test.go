package clock_test

import (
	"fmt"
	"regexp"
	"strconv"
	"strings"
	"testing"

	"almucantar/api"
	"almucantar/clock"
)

func wantText(t *testing.T, at int, wanted string, wantErr api.Errno) {
	t.Helper()
	got, e := clock.Text(at)
	want(t, "Text", at, got, wanted, e, wantErr)
}

func wantParsed(t *testing.T, s string, wanted int, wantErr api.Errno) {
	t.Helper()
	if got, e := clock.Parse(s); got != wanted || e != wantErr {
		t.Errorf("Parse(%.80q) = %d, %d; want %d, %d", s, got, e, wanted, wantErr)
	}
}

// P10.5: the chapter's example, whole seconds and others, the beginnings and ends of days, before 2000-01-01 too, and the first and the last text.
func TestTextExamples(t *testing.T) {
	for _, c := range []struct {
		at   int
		want string
	}{
		{762530709250, "2024-02-29 14:05:09.250"},
		{762530709000, "2024-02-29 14:05:09"},
		{0, "2000-01-01 00:00:00"},
		{1, "2000-01-01 00:00:00.001"},
		{10, "2000-01-01 00:00:00.010"},
		{100, "2000-01-01 00:00:00.100"},
		{999, "2000-01-01 00:00:00.999"},
		{1000, "2000-01-01 00:00:01"},
		{1001, "2000-01-01 00:00:01.001"},
		{59999, "2000-01-01 00:00:59.999"},
		{60000, "2000-01-01 00:01:00"},
		{hour - 1, "2000-01-01 00:59:59.999"},
		{hour, "2000-01-01 01:00:00"},
		{10*hour + 10*60000 + 10*1000, "2000-01-01 10:10:10"},
		{23*hour + 59*60000 + 59*1000, "2000-01-01 23:59:59"},
		{day - 1, "2000-01-01 23:59:59.999"},
		{day, "2000-01-02 00:00:00"},
		{day + 1, "2000-01-02 00:00:00.001"},
		{-1, "1999-12-31 23:59:59.999"},
		{-10, "1999-12-31 23:59:59.990"},
		{-100, "1999-12-31 23:59:59.900"},
		{-999, "1999-12-31 23:59:59.001"},
		{-1000, "1999-12-31 23:59:59"},
		{1 - day, "1999-12-31 00:00:00.001"},
		{-day, "1999-12-31 00:00:00"},
		{-day - 1, "1999-12-30 23:59:59.999"},
		{firstMoment, "0001-01-01 00:00:00"},
		{firstMoment + 1, "0001-01-01 00:00:00.001"},
		{most, "4229-11-24 01:22:57.664"},
		{most - 664, "4229-11-24 01:22:57"},
	} {
		wantText(t, c.at, c.want, api.OK)
		wantParsed(t, c.want, c.at, api.OK)
	}
}

// P10.5: no instants, and instants that are on no valid date.
func TestTextErrors(t *testing.T) {
	for _, n := range noInstants {
		wantText(t, n, "", api.ErrRange)
	}
	for _, n := range []int{-most, 1 - most, firstMoment - day, firstMoment - 1000, firstMoment - 1} {
		wantText(t, n, "", api.ErrTime)
	}
}

// textOf is what Go's library writes.
func textOf(at int) string {
	if at%1000 == 0 {
		return momentAt(at).Format("2006-01-02 15:04:05")
	}
	return momentAt(at).Format("2006-01-02 15:04:05.000")
}

// P10.5, P10.6: any instants have the texts that Go's library writes, which are read back.
func TestTextsAreReadBack(t *testing.T) {
	r := newNumbers()
	check := func(at int) {
		if at < firstMoment {
			wantText(t, at, "", api.ErrTime)
			return
		}
		text := textOf(at)
		wantText(t, at, text, api.OK)
		wantParsed(t, text, at, api.OK)
	}
	for ms := -2500; ms <= 2500; ms++ {
		check(ms)
		check(762530709250 + ms)
	}
	for second := range day / 1000 {
		check(1000 * second)
	}
	for range rounds {
		at := r.instant()
		check(at)
		check(at / 1000 * 1000)
	}
}

// P10.5: the hours, the minutes, and the seconds from 00 to 99, and all milliseconds.
func TestParseOfNumbers(t *testing.T) {
	for n := range 100 {
		for _, c := range []struct {
			form        string
			below, unit int
		}{{"2000-01-01 %02d:00:00", 24, hour}, {"2000-01-01 00:%02d:00", 60, 60000}, {"2000-01-01 00:00:%02d", 60, 1000}} {
			wanted, wantErr := n*c.unit, api.OK
			if n >= c.below {
				wanted, wantErr = 0, api.ErrForm
			}
			wantParsed(t, fmt.Sprintf(c.form, n), wanted, wantErr)
		}
	}
	wantParsed(t, "2000-01-01 00:00:00.000", 0, api.ErrForm)
	for ms := 1; ms < 1000; ms++ {
		wantParsed(t, fmt.Sprintf("2000-01-01 00:00:00.%03d", ms), ms, api.OK)
		wantParsed(t, fmt.Sprintf("2000-01-01 00:00:00.%03d0", ms), 0, api.ErrForm)
		wantParsed(t, fmt.Sprintf("2000-01-01 00:00:00.%02d", ms%100), 0, api.ErrForm)
		wantParsed(t, fmt.Sprintf("2000-01-01 00:00:00.%01d", ms%10), 0, api.ErrForm)
	}
}

// P10.5: texts of dates behind the last instant, the first of which is a millisecond behind it.
func TestParseIsErrBig(t *testing.T) {
	for _, s := range []string{"4229-11-24 01:22:57.665", "4229-11-24 01:22:58", "4229-11-24 23:59:59.999", "4229-11-25 00:00:00", "4230-01-01 00:00:00.001", "5000-02-28 12:00:00", "9999-12-31 00:00:00", "9999-12-31 23:59:59", "9999-12-31 23:59:59.999"} {
		wantParsed(t, s, 0, api.ErrBig)
	}
}

// P10.5: other lengths, separators, and orders, two blanks, signs, digits that are no ASCII digits (some of them as long in bytes as the form), numbers that there are not, and dates that do not exist; the form is looked at before the size.
func TestParseIsErrForm(t *testing.T) {
	for _, s := range []string{
		"", " ", ":", "::", " ::", "-- ::", " ::.", ".", "2024-02-29", "2024-02-29 ", "2024-02-29 1", "2024-02-29 14", "2024-02-29 14:", "2024-02-29 14:05", "2024-02-29 14:05:", "2024-02-29 14:05:.250", "2024-02-29 14::09", "2024-02-29 :05:09", "2024-02-29 ::", "2024-02-29 ::09", "14:05:09", " 14:05:09", "-- 14:05:09",
		"2024-02-29 14:05.250", "2024-02-29 14.250", "2024-02-29 14.5:05:09", "2024-02-29 14:05.5:09", "2024-02-29.250 14:05:09",
		"2024-02-29 4:05:09", "2024-02-29 14:5:09", "2024-02-29 14:05:9", "2024-02-29 014:05:09", "2024-02-29 14:005:09", "2024-02-29 14:05:009", "2024-02-29 14:05:9.250", "2024-02-29 14:05:009.25", "2024-02-29 0:0:0", "2024-02-29 140509", "2024-02-29 14:0509", "2024-02-29 1405:09", "2024-02-29 014:5:09", "2024-02-29 1:405:09",
		"2024-2-29 14:05:09", "2024-02-9 14:05:09", "24-02-29 14:05:09", "02024-02-29 14:05:09", "12024-02-29 14:05:09", "224-02-29 14:05:09",
		"2024-02-29 14:05:09.", "2024-02-29 14:05:09.2", "2024-02-29 14:05:09.25", "2024-02-29 14:05:09.2500", "2024-02-29 14:05:09.250000", "2024-02-29 14:05:09.0", "2024-02-29 14:05:09.00", "2024-02-29 14:05:09.000", "2024-02-29 14:05:09.0000", "2024-02-29 14:05:09..250", "2024-02-29 14:05:09.250.", "2024-02-29 14:05:09.25.", "2024-02-29 14:05:09.2.5", "2024-02-29 14:05:09.250.250", "2024-02-29 14:05:09,250", "2024-02-29 14:05:09:250", "2024-02-29 14:05:09250", "2024-02-29 14:05:09 250", "2024-02-29 14:05:09.25Z", "2024-02-29 14:05:09.2 5",
		"2024-02-29T14:05:09", "2024-02-29t14:05:09", "2024-02-29-14:05:09", "2024-02-29_14:05:09", "2024-02-29\t14:05:09", "2024-02-29\n14:05:09", "2024-02-2914:05:09", "2024-02-29\x0014:05:09", "2024-02-29\u00a014:05:09", "2024-02-29:14:05:09", "2024-02-29,14:05:09",
		"2024-02-29  14:05:09", " 2024-02-29 14:05:09", "2024-02-29 14:05:09 ", "2024-02-29 14:05:09\n", "2024-02-29 14:05:09\x00", "2024-02-29 14:05:09Z", "2024-02-29 14:05:09 UT", "2024-02-29 14:05:09+00:00", "2024-02-29 14 05 09", "2024-02-29 14 :05:09", "2024-02-29 14: 05:09", "2024-02-29 14:05: 09", "2024-02-29 14:05 :09", "2024-02-29  4:05:09", "2024-02-29 14: 5:09", "2024-02-29 14:05: 9", "2024-02-29 14:05:9 ", "2024-02-29 14:05:09 .250", "2024-02-29 14:05:09. 50", "2024-02-29 14:05:09.25 ",
		"2024-02-29 14-05-09", "2024-02-29 14.05.09", "2024-02-29 14h05m09", "2024-02-29 14:05-09", "2024-02-29 14-05:09", "2024-02-29 14;05:09", "2024-02-29 14:05;09", "2024/02/29 14:05:09", "2024.02.29 14:05:09", "2024:02:29 14:05:09", "2024 02 29 14:05:09", "2024\u221202\u221229 14:05:09", "2024-02-29 14\u223605\u223609", "2024-02-29 14\uff1a05\uff1a09", "2024-02-29 14:05:09\u066b250",
		"+2024-02-29 14:05:09", "-2024-02-29 14:05:09", "-001-02-28 14:05:09", "2024-02-29 +14:05:09", "2024-02-29 -14:05:09", "2024-02-29 +4:05:09", "2024-02-29 -4:05:09", "2024-02-29 -0:05:09", "2024-02-29 14:+5:09", "2024-02-29 14:-5:09", "2024-02-29 14:05:+9", "2024-02-29 14:05:-9", "2024-02-29 14:05:09.+25", "2024-02-29 14:05:09.-25", "2024-02-29 14:05:09.-01", "2024-02-29 14:05:09.+250",
		"2024-02-29 \uff11\uff14:05:09", "2024-02-29 \u0661\u0664:05:09", "2024-02-29 14:\u0665:09", "2024-02-29 14:05:\u0669", "2024-02-29 14:05:09.2\u0665", "2024-02-29 14:05:09.\u0662\u0665\u0660", "2024-02-29 14:05:\u00b2", "2024-02-29 14:05:09.\u2460", "\u0662\u0664-02-29 14:05:09",
		"2024-02-29 1e:05:09", "2024-02-29 0x:05:09", "2024-02-29 14:_5:09", "2024-02-29 14:05:0x", "2024-02-29 14:05:O9", "2024-02-29 14:05:09.2e1", "2024-02-29 14:05:09.0x1", "2024-02-29 14:05:09.1_0", "2024-02-29 14:05:09.abc", "2024-02-29 2p:05:09", "2024-02-29 02:05:09 PM", "2024-02-29 02:05:09PM",
		"2024-02-29 /4:05:09", "2024-02-29 14:/5:09", "2024-02-29 14:05:/9", "2024-02-29 14:05:0;", "2024-02-29 14:05:09.25/", "2024-02-29 14:05:09.;50",
		"2024-02-29 24:00:00", "2024-02-29 24:00:00.001", "2024-02-29 25:00:00", "2024-02-29 99:00:00", "2024-02-29 14:60:00", "2024-02-29 14:99:00", "2024-02-29 14:05:60", "2024-02-29 23:59:60", "2024-02-29 14:05:99", "2024-02-29 14:05:60.250",
		"0000-01-01 00:00:00", "0000-12-31 23:59:59.999", "0000-00-00 00:00:00", "2024-00-01 14:05:09", "2024-13-01 14:05:09", "2024-01-00 14:05:09", "2024-01-32 14:05:09", "2023-02-29 14:05:09", "1900-02-29 14:05:09", "2024-02-30 14:05:09", "2024-04-31 14:05:09", "2024-11-31 14:05:09.250",
		"14:05:09 2024-02-29", "29-02-2024 14:05:09", "09:05:14.250 2024-02-29", "2024-02-29 2024-02-29 14:05:09", "2024-02-29 14:05:09 14:05:09", "2024-02-29 14:05:09:00", "2024-02-29 00:14:05:09", "2024-02-29 14:05:09.250:00",
		"9999-12-31 24:00:00", "9999-12-31 23:59:60", "9999-12-31 23:59:59.000", "9999-12-31", "9999-12-32 00:00:00", "10000-01-01 00:00:00", "4229-11-25 00:00", "5000-02-29 12:00:00",
		strings.Repeat("0", 4096) + " 00:00:00", "2024-02-29 14:05:09" + strings.Repeat(" ", 100000), "2024-02-29" + strings.Repeat(" ", 100000) + "14:05:09", "2024-02-29 14:05:09." + strings.Repeat("0", 100000), "2024-02-29 " + strings.Repeat("0", 100000) + ":05:09", strings.Repeat("2024-02-29 14:05:09", 10000), strings.Repeat(":", 100000), strings.Repeat(" ", 100000), strings.Repeat("9", 100000),
	} {
		wantParsed(t, s, 0, api.ErrForm)
	}
}

var form = regexp.MustCompile(`\A([0-9]{4})-([0-9]{2})-([0-9]{2}) ([0-9]{2}):([0-9]{2}):([0-9]{2})(?:\.([0-9]{3}))?\z`)

// parsed is what the form says of a string.
func parsed(s string) (int, api.Errno) {
	found := form.FindStringSubmatch(s)
	if found == nil {
		return 0, api.ErrForm
	}
	var parts [7]int
	for i, text := range found[1:] {
		parts[i], _ = strconv.Atoi(text)
	}
	d := date(parts[0], parts[1], parts[2])
	if !isDate(d) || parts[3] > 23 || parts[4] > 59 || parts[5] > 59 || found[7] == "000" {
		return 0, api.ErrForm
	}
	at := since2000(moment(d, ((parts[3]*60+parts[4])*60+parts[5])*1000+parts[6]))
	if at > most {
		return 0, api.ErrBig
	}
	return at, api.OK
}

func checkParsed(t *testing.T, s string) {
	t.Helper()
	wanted, wantErr := parsed(s)
	wantParsed(t, s, wanted, wantErr)
}

// P10.5: texts of which each byte is left out, doubled, exchanged for any other one, or has any one before it.
func TestParseKnowsTheForm(t *testing.T) {
	for _, s := range []string{"2024-02-29 14:05:09.250", "2024-02-29 14:05:09", "0001-01-01 00:00:00.001", "4229-11-24 01:22:57.664", "9999-12-31 23:59:59", "1999-11-30 20:10:40.100"} {
		checkParsed(t, s)
		for i := range len(s) {
			checkParsed(t, s[:i]+s[i+1:])
			checkParsed(t, s[:i])
			checkParsed(t, s[i:])
			for b := range 256 {
				other := string([]byte{byte(b)})
				checkParsed(t, s[:i]+other+s[i+1:])
				checkParsed(t, s[:i]+other+s[i:])
				checkParsed(t, s+other)
			}
		}
	}
}

// P10.5: any strings of about the length of the form, made of its own bytes and a few others.
func TestParseOfAnyTexts(t *testing.T) {
	const own = "01234567890120-+ :.."
	r := newNumbers()
	for range rounds {
		s := []byte("2024-02-29 14:05:09.250")
		if r.source.IntN(4) == 0 {
			s = s[:len(s)-4]
		}
		for range 1 + r.source.IntN(4) {
			s[r.source.IntN(len(s))] = own[r.source.IntN(len(own))]
		}
		checkParsed(t, string(s[:len(s)-r.source.IntN(8)/7]))
	}
}
