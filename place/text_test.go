package place_test

import (
	"fmt"
	"math/big"
	"regexp"
	"strings"
	"testing"

	"almucantar/angle"
	"almucantar/api"
	"almucantar/place"
)

func wantParsed(t *testing.T, s string, want api.Point, wantErr api.Errno) {
	t.Helper()
	if got, e := place.Parse(s); got != want || e != wantErr {
		t.Errorf("Parse(%.80q) = %v, %d; want %v, %d", s, got, e, want, wantErr)
	}
}

// P8.4, P8.5: the chapter's example, 0, all four signs, poles, and the least and the greatest longitude; each text is read back.
func TestTextExamples(t *testing.T) {
	for _, c := range []struct {
		p    api.Point
		want string
	}{
		{point(2045500, -7095000), "34-05.5N 118-15.0W"},
		{point(0, 0), "0-00.0N 0-00.0E"},
		{point(1, 1), "0-00.001N 0-00.001E"},
		{point(-1, 1), "0-00.001S 0-00.001E"},
		{point(1, -1), "0-00.001N 0-00.001W"},
		{point(-1, -1), "0-00.001S 0-00.001W"},
		{point(0, -1), "0-00.0N 0-00.001W"},
		{point(-1, 0), "0-00.001S 0-00.0E"},
		{point(quarter, -half), "90-00.0N 180-00.0W"},
		{point(-quarter, half-1), "90-00.0S 179-59.999E"},
		{point(1-quarter, 1-half), "89-59.999S 179-59.999W"},
		{point(59999, 60000), "0-59.999N 1-00.0E"},
		{point(-60100, 60010), "1-00.1S 1-00.010E"},
	} {
		if got, e := place.Text(c.p); got != c.want || e != api.OK {
			t.Errorf("Text(%v) = %q, %d; want %q", c.p, got, e, c.want)
		}
		wantParsed(t, c.want, c.p, api.OK)
	}
	for _, p := range invalidPoints {
		if got, e := place.Text(p); got != "" || e != api.ErrArg {
			t.Errorf("Text(%v) = %q, %d", p, got, e)
		}
	}
}

// coordinate is a text as fmt would print it.
func coordinate(n int, letters string) string {
	letter := letters[:1]
	if n < 0 {
		n, letter = -n, letters[1:]
	}
	text := fmt.Sprintf("%d-%02d.%03d", n/60000, n/1000%60, n%1000)
	if n%100 == 0 {
		text = strings.TrimSuffix(text, "00")
	}
	return text + letter
}

// P8.4, P8.5: any points, and those of whole tenths, have the texts that fmt prints, which are read back.
func TestTextIsReadBack(t *testing.T) {
	check := func(p api.Point) {
		want := coordinate(p.Lat, "NS") + " " + coordinate(p.Lon, "EW")
		if got, e := place.Text(p); got != want || e != api.OK {
			t.Errorf("Text(%v) = %q, %d; want %q", p, got, e, want)
		}
		wantParsed(t, want, p, api.OK)
	}
	for _, p := range validPoints {
		check(p)
	}
	r := newNumbers()
	for range rounds {
		p := point(r.from(anyLat), r.from(between(-half, half-1)))
		check(p)
		check(point(p.Lat/100*100, p.Lon/100*100))
	}
}

// P8.4: N and S, and E and W, at 0; numbers in each form that layer 5 parses; the greatest coordinates.
func TestParseExamples(t *testing.T) {
	for _, c := range []struct {
		s    string
		want api.Point
	}{
		{"0-00.0S 0-00.0E", point(0, 0)},
		{"0-00.0N 0-00.0W", point(0, 0)},
		{"0-00S 0-00W", point(0, 0)},
		{"0-00.000S 0-00.00W", point(0, 0)},
		{"34-05N 118-15W", point(2045000, -7095000)},
		{"34-05.5N 118-15.5W", point(2045500, -7095500)},
		{"34-05.50N 118-15.05W", point(2045500, -7095050)},
		{"34-05.500S 118-15.005E", point(-2045500, 7095005)},
		{"34-05.123S 118-15E", point(-2045123, 7095000)},
		{"90-00N 180-00W", point(quarter, -half)},
		{"90-00.000S 180-00.000W", point(-quarter, -half)},
		{"89-59.999S 179-59.999E", point(1-quarter, half-1)},
	} {
		wantParsed(t, c.s, c.want, api.OK)
	}
}

// P8.4: texts that have the form, but no point has: a Lat, a Lon, or both one beyond, far beyond, and too great for an arc and for an int.
func TestParseIsErrRange(t *testing.T) {
	const most, huge = "18325193-47.776", "99999999999999999999-00"
	for _, s := range []string{
		"90-00.001N 0-00.0E", "90-00.001S 0-00.0E", "90-01N 0-00E", "91-00N 0-00E", "180-00S 0-00E",
		"0-00.0N 180-00.0E", "0-00.0N 180-00.001W", "0-00.0N 180-00.001E", "0-00N 360-00E", "0-00N 360-00W", "0-00N 181-00W",
		"90-00.001N 180-00.0E", "118-15.0S 34-05.5W", "90-00.001N 180-00.0W", "90-00.0N 180-00.0E",
		most + "N 0-00E", "0-00N " + most + "W", most + "S " + most + "E",
		"18325193-47.777N 0-00E", "0-00N 18325193-47.777W", "18325194-00S 18325194-00E",
		huge + "N 0-00.0E", "0-00.0N " + huge + "W", huge + "S " + huge + "E",
		strings.Repeat("9", 100000) + "-00N 0-00E", "0-00N " + strings.Repeat("9", 100000) + "-00E",
	} {
		wantParsed(t, s, api.Point{}, api.ErrRange)
	}
}

// P8.4: signs, missing, repeated and other spaces, missing, wrong and other letters, and numbers that layer 5 does not parse; a coordinate that is out of range does not come first.
func TestParseIsErrForm(t *testing.T) {
	for _, s := range []string{
		"", " ", "  ", "N", "N E", "S W", " N E", "N  E",
		"-34-05.5N 118-15.0W", "34-05.5N -118-15.0W", "-34-05.5N -118-15.0W", "+34-05.5N 118-15.0W", "34-05.5N +118-15.0W", "-0-00N 0-00E", "0-00N -0-00E", "--0-00N 0-00E", "-N 0-00E", "0-00N -E", "-", "- -",
		"34-05.5N118-15.0W", "34-05.5N  118-15.0W", " 34-05.5N 118-15.0W", "34-05.5N 118-15.0W ", "34-05.5 N 118-15.0W", "34-05.5N 118-15.0 W", "34- 05.5N 118-15.0W", "34-05.5N 118 -15.0W",
		"34-05.5N\t118-15.0W", "34-05.5N\n118-15.0W", "34-05.5N\u00a0118-15.0W", "34-05.5N,118-15.0W", "34-05.5N; 118-15.0W", "34-05.5N 118-15.0W\n", "34-05.5N 118-15.0W\x00", "34-05.5N\x00118-15.0W",
		"34-05.5N", "34-05.5N ", " 118-15.0W", "118-15.0W", "118-15.0W 34-05.5N", "34-05.5N 118-15.0W 0-00E", "34-05.5N 34-05.5N", "118-15.0W 118-15.0W", "34-05.5E 118-15.0N",
		"34-05.5 118-15.0W", "34-05.5N 118-15.0", "34-05.5 118-15.0", "34-05.5n 118-15.0w", "34-05.5N 118-15.0w", "34-05.5n 118-15.0W", "N34-05.5 W118-15.0", "34-05.5NN 118-15.0W", "34-05.5NS 118-15.0W", "34-05.5N 118-15.0WW", "34-05.5N 118-15.0EW", "34-05.5North 118-15.0W", "34-05.5X 118-15.0W", "34-05.5N 118-15.0X",
		"34-5.5N 118-15.0W", "034-05.5N 118-15.0W", "34-05.5N 0118-15.0W", "34N 118-15.0W", "34-N 118-15.0W", "34-05.N 118-15.0W", "34-05.5000N 118-15.0W", "34-60N 118-15.0W", "34-05.5N 118-60.0W", "34-05.5N 118W", "34.5N 118-15.0W", "34-05-05N 118-15.0W", "34°05.5N 118-15.0W",
		"91-00N 0-00", "91-00N 0-60E", "91-00N", "91-00N ", "0-60N 181-00W", "N 181-00W", "0-00 180-00E", "91-00N  181-00W", "-91-00N 0-00E", "0-00N -181-00E",
		"99999999999999999999-00N 0-60E", "99999999999999999999-00N ", "0-60S 99999999999999999999-00E", "99999999999999999999-60N 0-00E", "-99999999999999999999-00N 0-00E",
	} {
		wantParsed(t, s, api.Point{}, api.ErrForm)
	}
}

var form = regexp.MustCompile(`^(0|[1-9][0-9]*)-([0-5][0-9])(?:\.([0-9]{1,3}))?([NS]) (0|[1-9][0-9]*)-([0-5][0-9])(?:\.([0-9]{1,3}))?([EW])$`)

// parsed is what the form says of a string.
func parsed(s string) (api.Point, api.Errno) {
	parts := form.FindStringSubmatch(s)
	if parts == nil {
		return api.Point{}, api.ErrForm
	}
	size := func(parts []string) *big.Int {
		degrees, _ := new(big.Int).SetString(parts[0], 10)
		rest, _ := new(big.Int).SetString(parts[1]+(parts[2] + "000")[:3], 10)
		n := degrees.Add(degrees.Mul(degrees, big.NewInt(60000)), rest)
		if parts[3] == "S" || parts[3] == "W" {
			n.Neg(n)
		}
		return n
	}
	lat, lon := size(parts[1:5]), size(parts[5:9])
	if lat.CmpAbs(big.NewInt(quarter)) > 0 || lon.Cmp(big.NewInt(-half)) < 0 || lon.Cmp(big.NewInt(half-1)) > 0 {
		return api.Point{}, api.ErrRange
	}
	return point(int(lat.Int64()), int(lon.Int64())), api.OK
}

// P8.4: texts of which each byte is left out, doubled, exchanged for any other one, or has any one before it.
func TestParseKnowsTheForm(t *testing.T) {
	check := func(s string) {
		want, wantErr := parsed(s)
		wantParsed(t, s, want, wantErr)
	}
	for _, s := range []string{"34-05.5N 118-15.0W", "0-00.001S 0-00.0E", "90-00N 180-00W", "89-59.999N 179-59.999E", "9-00S 18-00E"} {
		check(s)
		for i := range len(s) {
			check(s[:i] + s[i+1:])
			check(s[:i])
			check(s[i:])
			for b := range 256 {
				other := string([]byte{byte(b)})
				check(s[:i] + other + s[i+1:])
				check(s[:i] + other + s[i:])
				check(s + other)
			}
		}
	}
}

// P8.4: any texts of the form, in and out of range, and with any one of its bytes exchanged for one of the form's own.
func TestParseOfAnyTexts(t *testing.T) {
	check := func(s string) {
		want, wantErr := parsed(s)
		wantParsed(t, s, want, wantErr)
	}
	const own = "-. NSEW0123456789"
	r := newNumbers()
	number := func(degrees int) string {
		digits := r.source.IntN(4)
		fraction := ".999"[:digits]
		if digits > 0 {
			fraction = fmt.Sprintf(".%0*d", digits, r.source.IntN(10))
		}
		return fmt.Sprintf("%d-%02d%s", r.source.IntN(degrees), r.source.IntN(61), fraction)
	}
	for range rounds {
		i := r.source.IntN(2)
		s := number(95) + "NS"[i:i+1] + " " + number(190) + "EW"[i:i+1]
		check(s)
		at, b := r.source.IntN(len(s)), r.source.IntN(len(own))
		check(s[:at] + own[b:b+1] + s[at+1:])
	}
}

// P8.4: points and places that are printed as one number or as two, at the poles and at HalfTurn.
func TestPrintExamples(t *testing.T) {
	for _, c := range []struct {
		p    api.Place
		want string
	}{
		{exactly(2040000, -1200000), "34-00.0; -20-00.0"},
		{exactly(0, 0), "0-00.0; 0-00.0"},
		{box(between(-51, 49), between(-50, 50)), "-0-00.1 .. 0-00.0; 0-00.0 .. 0-00.1"},
		{box(between(2483349, 2483360), only(-7095000)), "41-23.3 .. 41-23.4; -118-15.0"},
		{box(anyLat, everywhere), "-90-00.0 .. 90-00.0; -180-00.0 .. 180-00.0"},
		{box(only(quarter), between(10740000, 10860000)), "90-00.0; 179-00.0 .. 181-00.0"},
		{box(only(-quarter), long(half-1, turn-1)), "-90-00.0; 180-00.0 .. 540-00.0"},
	} {
		if got, e := place.Print(c.p); got != c.want || e != api.OK {
			t.Errorf("Print(%v) = %q, %d; want %q", c.p, got, e, c.want)
		}
	}
}

// P8.4: both arcs as layer 5 prints them, and ErrArg for what is not valid.
func TestPrint(t *testing.T) {
	check := func(p api.Place) {
		lat, latErr := angle.Print(p.Lat)
		lon, lonErr := angle.Print(p.Lon)
		want := lat + "; " + lon
		if got, e := place.Print(p); got != want || e != api.OK || latErr != api.OK || lonErr != api.OK {
			t.Errorf("Print(%v) = %q, %d; want %q", p, got, e, want)
		}
	}
	for _, p := range validPlaces() {
		check(p)
	}
	r := newNumbers()
	for range rounds {
		check(r.place())
	}
	for _, p := range invalidPlaces() {
		if got, e := place.Print(p); got != "" || e != api.ErrArg {
			t.Errorf("Print(%v) = %q, %d", p, got, e)
		}
	}
}
