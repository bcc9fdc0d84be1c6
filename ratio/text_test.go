package ratio_test

import (
	"math/big"
	"regexp"
	"strings"
	"testing"

	"almucantar/api"
	"almucantar/ratio"
)

func wantText(t *testing.T, a api.Frac, want string, wantErr api.Errno) {
	t.Helper()
	if s, e := ratio.Text(a); s != want || e != wantErr {
		t.Errorf("Text(%v) = %q, %d; want %q, %d", a, s, e, want, wantErr)
	}
}

func wantParse(t *testing.T, s string, want api.Frac, wantErr api.Errno) {
	t.Helper()
	if a, e := ratio.Parse(s); a != want || e != wantErr {
		t.Errorf("Parse(%q) = %v, %d; want %v, %d", s, a, e, want, wantErr)
	}
}

// P3.5: the chapter's example, zero, integers, and the ends.
func TestTextExamples(t *testing.T) {
	for _, c := range []struct {
		a    api.Frac
		text string
	}{
		{api.Frac{Num: -3, Den: 2}, "-3/2"},
		{api.Frac{Num: 3, Den: 2}, "3/2"},
		{integer(0), "0"},
		{integer(7), "7"},
		{integer(-7), "-7"},
		{integer(10), "10"},
		{api.Frac{Num: 1, Den: 10}, "1/10"},
		{integer(most), "1073741824"},
		{integer(-most), "-1073741824"},
		{api.Frac{Num: 1, Den: most}, "1/1073741824"},
		{api.Frac{Num: -1, Den: most}, "-1/1073741824"},
		{api.Frac{Num: most - 1, Den: most}, "1073741823/1073741824"},
		{api.Frac{Num: -most, Den: most - 1}, "-1073741824/1073741823"},
	} {
		wantText(t, c.a, c.text, api.OK)
		wantParse(t, c.text, c.a, api.OK)
	}
}

// P3.5: every text is read back.
func TestTextsAreReadBack(t *testing.T) {
	list, r := fracs(), newNumbers()
	for range rounds {
		list = append(list, r.frac())
	}
	for _, a := range list {
		// RatString leaves a denominator of 1 out.
		text := value(a).RatString()
		wantText(t, a, text, api.OK)
		wantParse(t, text, a, api.OK)
	}
}

// P3.5.
func TestTextRejectsInvalidArguments(t *testing.T) {
	for _, a := range invalid {
		wantText(t, a, "", api.ErrArg)
	}
}

// P3.5: other forms, superfluous zeros and signs, fractions that are not in lowest terms, and numbers that are too big.
func TestParseRejects(t *testing.T) {
	for _, s := range []string{
		"", "-", "/", "-/", "1/", "/1", "/2", "-/2", "1/-", "1/2/", "1/2/3", "1//2", "/1/2",
		"+1", "+1/2", "1/+2", "1/-2", "-1/-2", "--1", "--1/2", "1-", "1-/2",
		" 1", "1 ", "1 /2", "1/ 2", "1/2 ", "\t1", "1\n", "1/2\n", "1/2\x00", "\xff", "١", "½", "1:2", "1⁄2",
		"-0", "00", "01", "-01", "01/2", "1/02", "0/1", "-0/1", "0/2", "00/1", "-0/5", "1/00", "1/01",
		"1/1", "-1/1", "7/1", "2/2", "2/4", "6/4", "-6/4", "10/5", "1/0", "0/0", "-1/0",
		"1.5", "1e3", "0x1", "0b1", "1_000", "1/1_0", "x", "1x", "x/2", "1/x", "1/2x", "NaN", "Inf",
		"1073741825", "-1073741825", "1/1073741825", "1073741825/2", "-1073741825/1073741824", "1073741824/1073741824", "2147483648/2",
		"9223372036854775807", "9223372036854775808", "-9223372036854775808", "-9223372036854775809", "1/9223372036854775808",
		"18446744073709551616", "18446744073709551617", "1/18446744073709551617", "18446744073709551617/2",
		strings.Repeat("9", 5000), "1/" + strings.Repeat("9", 5000), strings.Repeat("0", 5000) + "1", "1/" + strings.Repeat("0", 5000) + "2",
		strings.Repeat("/", 5000), strings.Repeat("-", 5000) + "1",
	} {
		wantParse(t, s, api.Frac{}, api.ErrForm)
	}
}

var form = regexp.MustCompile(`^(0|-?[1-9][0-9]*)(/[1-9][0-9]*)?$`)

// hasText reports whether some valid fraction of small numbers has the text, and which one.
func hasText(s string) (api.Frac, bool) {
	if !form.MatchString(s) {
		return api.Frac{}, false
	}
	v, ok := new(big.Rat).SetString(s)
	if !ok || v.RatString() != s {
		return api.Frac{}, false
	}
	a, e := fitting(v)
	return a, e == api.OK
}

// P3.5: all short strings over some bytes.
func TestParseReadsTextsAlone(t *testing.T) {
	var visit func(s string, length int)
	visit = func(s string, length int) {
		want, wantErr := api.Frac{}, api.ErrForm
		if a, ok := hasText(s); ok {
			want, wantErr = a, api.OK
		}
		wantParse(t, s, want, wantErr)
		if length == 0 {
			return
		}
		for _, letter := range []string{"-", "/", "0", "1", "2", "4", "6", "+", " "} {
			visit(s+letter, length-1)
		}
	}
	visit("", 5)
}
