package angle_test

import (
	"fmt"
	"math"
	"math/big"
	"regexp"
	"strings"
	"testing"

	"almucantar/angle"
	"almucantar/api"
)

func wantText(t *testing.T, name string, n any, got, want string, e, wantErr api.Errno) {
	t.Helper()
	if got != want || e != wantErr {
		t.Errorf("%s(%v) = %q, %d; want %q, %d", name, n, got, e, want, wantErr)
	}
}

// P5.5: the chapter's examples, -MaxArc and MaxArc, negative numbers of less than a degree, one digit and three; and what is read back.
func TestTextExamples(t *testing.T) {
	for _, c := range []struct {
		n    int
		want string
	}{
		{2483400, "41-23.4"},
		{-60001, "-1-00.001"},
		{0, "0-00.0"},
		{1, "0-00.001"},
		{-1, "0-00.001"},
		{10, "0-00.010"},
		{99, "0-00.099"},
		{100, "0-00.1"},
		{101, "0-00.101"},
		{110, "0-00.110"},
		{900, "0-00.9"},
		{999, "0-00.999"},
		{1000, "0-01.0"},
		{9999, "0-09.999"},
		{10000, "0-10.0"},
		{59999, "0-59.999"},
		{60000, "1-00.0"},
		{599999, "9-59.999"},
		{600000, "10-00.0"},
		{6000000, "100-00.0"},
		{turn, "360-00.0"},
		{turn - 1, "359-59.999"},
		{most, "18325193-47.776"},
		{most - 1, "18325193-47.775"},
		{most - 76, "18325193-47.7"},
	} {
		for _, n := range []int{c.n, -c.n} {
			want := strings.TrimPrefix(c.want, "-")
			if n < 0 {
				want = "-" + want
			}
			got, e := angle.Text(n)
			wantText(t, "Text", n, got, want, e, api.OK)
			back, e := angle.Parse(want)
			wantParsed(t, want, back, n, e, api.OK)
		}
	}
}

// P5.5: one beyond the limits, and far beyond.
func TestTextIsErrBig(t *testing.T) {
	for _, n := range []int{most + 1, -most - 1, most + 24, -most - 24, 2 * most, -2 * most, 1 << 62, math.MaxInt, math.MinInt, math.MinInt + 1} {
		got, e := angle.Text(n)
		wantText(t, "Text", n, got, "", e, api.ErrBig)
	}
}

// P5.5, P5.7: texts as fmt would print them, which are read back.
func TestTextIsReadBack(t *testing.T) {
	check := func(n int) {
		size, sign := n, ""
		if n < 0 {
			size, sign = -n, "-"
		}
		want := fmt.Sprintf("%s%d-%02d.%03d", sign, size/60000, size/1000%60, size%1000)
		if size%100 == 0 {
			want = strings.TrimSuffix(want, "00")
		}
		got, e := angle.Text(n)
		wantText(t, "Text", n, got, want, e, api.OK)
		back, e := angle.Parse(got)
		wantParsed(t, got, back, n, e, api.OK)
	}
	r := newNumbers()
	for n := -61100; n <= 61100; n++ {
		check(n)
	}
	for range rounds {
		n := r.end()
		check(n)
		check(n / 100 * 100)
	}
}

func wantParsed(t *testing.T, s string, got, want int, e, wantErr api.Errno) {
	t.Helper()
	if got != want || e != wantErr {
		t.Errorf("Parse(%.60q) = %d, %d; want %d, %d", s, got, e, want, wantErr)
	}
}

// P5.5: with and without a minus sign, with none to three digits behind the point, and at the limits.
func TestParseExamples(t *testing.T) {
	for _, c := range []struct {
		s string
		n int
	}{
		{"0-00", 0}, {"-0-00", 0}, {"-0-00.0", 0}, {"-0-00.000", 0},
		{"0-00.1", 100}, {"0-00.01", 10}, {"0-00.001", 1}, {"-0-00.001", -1},
		{"0-01", 1000}, {"-0-01", -1000}, {"0-59", 59000}, {"0-59.999", 59999},
		{"41-23.4", 2483400}, {"41-23.40", 2483400}, {"41-23.400", 2483400}, {"-41-23.4", -2483400},
		{"41-23.45", 2483450}, {"41-23.456", 2483456}, {"41-23", 2483000},
		{"-1-00.001", -60001}, {"10-00", 600000}, {"100-00.5", 6000500}, {"101-09.09", 6069090}, {"360-00", turn},
		{"18325193-47.776", most}, {"-18325193-47.776", -most}, {"18325193-47.7", most - 76}, {"18325192-59.999", 1099511579999},
	} {
		got, e := angle.Parse(c.s)
		wantParsed(t, c.s, got, c.n, e, api.OK)
	}
}

// P5.5: one beyond the limits, and degrees that are too great for their product, for an int, and for anything.
func TestParseIsErrBig(t *testing.T) {
	for _, s := range []string{
		"18325193-47.777", "18325193-47.8", "18325193-48", "18325193-59.999", "18325194-00", "18325194-00.000", "20000000-00", "99999999-59",
		"153722867280912-00", "153722867280913-00", "307445734561826-00", "9223372036854775807-59", "9223372036854775808-00", "18446744073709551616-00",
		"99999999999999999999999999999999-00.1", strings.Repeat("9", 100000) + "-00",
	} {
		for _, signed := range []string{s, "-" + s} {
			got, e := angle.Parse(signed)
			wantParsed(t, signed, got, 0, e, api.ErrBig)
		}
	}
}

// P5.5: superfluous zeros, wrong numbers of digits, 60 minutes, a point and no digit, and other bytes; too great degrees do not come first.
func TestParseIsErrForm(t *testing.T) {
	for _, s := range []string{
		"", "-", "--", "0", "-0", "41", "41-", "-41-", "-00", "--00", "0-", "-0-",
		"00-00", "01-00", "041-23.4", "-00-00", "-01-00", "000-00.1",
		"41-2", "41-2.4", "41-023", "41-234", "41-023.4", "41-", "41-.4", "41--23", "41-23-", "41-23-4", "41-23.4-", "--41-23", "+41-23", "41-+2", "41-+23", "41--2", "+0-00", "41-23.-4", "41-23.+4",
		"41-60", "41-60.0", "41-61", "41-99", "41-60.4", "41-99.999",
		"41-23.", "41-.", "41-23.4567", "41-23.4000", "41-23.0000", "41-23..4", "41-23.4.", "41-23.4.5", "41.5-23", "41.-23", ".41-23", ".", "-.",
		" 41-23.4", "41-23.4 ", "41 -23.4", "41- 23.4", "41- 2", "41-2 ", "41-23.4\n", "\n41-23.4", "41-23.4\x00", "\x0041-23", "4\x001-23",
		"41-23,4", "41_23.4", "4_1-23.4", "1_000-00", "0x1-23", "1e1-23", "41-1e", "41-0x", "41-23.e", "41-23.1e1", "4a-23", "a-23", "41-a3", "41-2a", "41-23.a", "41-23.4a", "41-23.4N", "N41-23",
		"/-23", ":-23", "41-/3", "41-3/", "41-:3", "41-3:", "41-23./", "41-23.:", "41-5/", "41-5:", "41-\xb3\xb3",
		"\xff", "41-23.\xff", "４1-23", "41-23.４", "٤1-23", "41‐23.4", "−41-23.4", "41°23.4", "41-23.4'",
		"18325194-60", "18325194-00.", "18325194-0", "99999999999999999999-60", "99999999999999999999", "99999999999999999999-00.1234", "099999999999999999999-00",
	} {
		got, e := angle.Parse(s)
		wantParsed(t, s, got, 0, e, api.ErrForm)
	}
}

var form = regexp.MustCompile(`^(-?)(0|[1-9][0-9]*)-([0-5][0-9])(?:\.([0-9]{1,3}))?$`)

// parsed is what the form says of a string.
func parsed(s string) (int, api.Errno) {
	parts := form.FindStringSubmatch(s)
	if parts == nil {
		return 0, api.ErrForm
	}
	thousandths := parts[3] + (parts[4] + "000")[:3]
	degrees, _ := new(big.Int).SetString(parts[2], 10)
	rest, _ := new(big.Int).SetString(thousandths, 10)
	n := degrees.Add(degrees.Mul(degrees, big.NewInt(60000)), rest)
	if parts[1] == "-" {
		n.Neg(n)
	}
	if n.CmpAbs(big.NewInt(most)) > 0 {
		return 0, api.ErrBig
	}
	return int(n.Int64()), api.OK
}

// P5.5: all strings of up to 7 bytes of the form's own, and any of these at random.
func TestParseKnowsTheForm(t *testing.T) {
	check := func(s string) {
		want, wantErr := parsed(s)
		got, e := angle.Parse(s)
		wantParsed(t, s, got, want, e, wantErr)
	}
	const alphabet = "-.056"
	var extend func(s string, more int)
	extend = func(s string, more int) {
		check(s)
		if more == 0 {
			return
		}
		for i := range len(alphabet) {
			extend(s+alphabet[i:i+1], more-1)
		}
	}
	extend("", 7)
	r := newNumbers()
	for range rounds {
		text := []byte(fmt.Sprintf("%d-%02d.%0*d", r.int(), r.source.IntN(70), r.source.IntN(4)+1, r.source.IntN(1000)))
		check(string(text))
		text[r.source.IntN(len(text))] = "-.0123456789 x\xff"[r.source.IntN(15)]
		check(string(text))
		text[0] = "-1"[r.source.IntN(2)]
		check(string(text))
	}
}

// P5.6: the chapter's example; ends that round to the same tenth and to different ones, just below and at half a tenth, and with both signs.
func TestPrintExamples(t *testing.T) {
	for _, c := range []struct {
		a    api.Arc
		want string
	}{
		{between(2483349, 2483360), "41-23.3 .. 41-23.4"},
		{between(2483350, 2483449), "41-23.4"},
		{between(2483349, 2483449), "41-23.3 .. 41-23.4"},
		{between(2483350, 2483450), "41-23.4 .. 41-23.5"},
		{between(2483349, 2483450), "41-23.3 .. 41-23.5"},
		{only(0), "0-00.0"},
		{only(49), "0-00.0"},
		{only(50), "0-00.1"},
		{only(-50), "0-00.0"},
		{only(-51), "-0-00.1"},
		{only(-149), "-0-00.1"},
		{only(-150), "-0-00.1"},
		{only(-151), "-0-00.2"},
		{between(-50, 49), "0-00.0"},
		{between(-51, 49), "-0-00.1 .. 0-00.0"},
		{between(-50, 50), "0-00.0 .. 0-00.1"},
		{between(-51, 50), "-0-00.1 .. 0-00.1"},
		{only(59949), "0-59.9"},
		{only(59950), "1-00.0"},
		{between(59949, 59950), "0-59.9 .. 1-00.0"},
		{only(-59950), "-0-59.9"},
		{only(-59951), "-1-00.0"},
		{between(0, turn), "0-00.0 .. 360-00.0"},
		{only(most - 27), "18325193-47.7"},
		{only(-most + 26), "-18325193-47.7"},
		{between(-most+26, most-27), "-18325193-47.7 .. 18325193-47.7"},
	} {
		got, e := angle.Print(c.a)
		wantText(t, "Print", c.a, got, c.want, e, api.OK)
	}
}

// P5.6: ErrArg for what is not valid, and ErrBig for what rounds beyond the limits.
func TestPrintErrors(t *testing.T) {
	for _, a := range invalid {
		got, e := angle.Print(a)
		wantText(t, "Print", a, got, "", e, api.ErrArg)
	}
	for _, a := range []api.Arc{
		only(most), only(-most), only(most - 26), only(-most + 25), between(most-27, most-26), between(-most+25, -most+26),
		between(0, most), between(-most, 0), between(-most, most), between(0, most-26), between(-most+25, 0),
	} {
		got, e := angle.Print(a)
		wantText(t, "Print", a, got, "", e, api.ErrBig)
	}
}

// P5.6: the texts of the tenths that a definition with exact fractions gives.
func TestPrintRoundsToTenths(t *testing.T) {
	tenth := func(n int) int {
		// Div rounds down, since the divisor is positive.
		q := new(big.Int).Div(big.NewInt(int64(n)+50), big.NewInt(100))
		return int(q.Int64()) * 100
	}
	check := func(a api.Arc) {
		lo, hi := tenth(a.Lo), tenth(a.Hi)
		got, e := angle.Print(a)
		if lo < -most || hi > most {
			wantText(t, "Print", a, got, "", e, api.ErrBig)
			return
		}
		want, _ := angle.Text(lo)
		if lo != hi {
			other, _ := angle.Text(hi)
			want += " .. " + other
		}
		wantText(t, "Print", a, got, want, e, api.OK)
	}
	r := newNumbers()
	for n := -1100; n <= 1100; n++ {
		check(only(n))
		check(between(n, n+r.source.IntN(100)))
	}
	for range rounds {
		check(r.arc())
	}
}
