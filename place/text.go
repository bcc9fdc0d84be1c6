package place

import (
	"strings"

	"almucantar/angle"
	"almucantar/api"
)

// The letters of positive coordinates, and of negative ones.
const (
	latitudeLetters  = "NS"
	longitudeLetters = "EW"
)

// Text returns the text of a point.
func Text(p api.Point) (string, api.Errno) {
	if !ValidPoint(p) {
		return "", api.ErrArg
	}
	return coordinateText(p.Lat, latitudeLetters) + " " + coordinateText(p.Lon, longitudeLetters), api.OK
}

// Parse returns the point that a text stands for.
func Parse(s string) (api.Point, api.Errno) {
	// Without a space, there is no longitude, which is not its form.
	latitude, longitude, _ := strings.Cut(s, " ")
	lat, latErr := parseCoordinate(latitude, latitudeLetters)
	lon, lonErr := parseCoordinate(longitude, longitudeLetters)
	if latErr == api.ErrForm || lonErr == api.ErrForm {
		return api.Point{}, api.ErrForm
	}
	// A number that does not fit has the form, but no point has it.
	p := api.Point{Lat: lat, Lon: lon}
	if latErr != api.OK || lonErr != api.OK || !ValidPoint(p) {
		return api.Point{}, api.ErrRange
	}
	return p, api.OK
}

// Print returns what angle.Print returns for both arcs of a place.
func Print(p api.Place) (string, api.Errno) {
	if !Valid(p) {
		return "", api.ErrArg
	}
	// No error is possible, since the ends of both arcs are far from the limits.
	lat, _ := angle.Print(p.Lat)
	lon, _ := angle.Print(p.Lon)
	return lat + "; " + lon, api.OK
}

func coordinateText(n int, letters string) string {
	size, letter := n, letters[:1]
	if n < 0 {
		size, letter = -n, letters[1:]
	}
	// No error is possible, since coordinates are at most half a turn.
	text, _ := angle.Text(size)
	return text + letter
}

// parseCoordinate returns the number that a text with one of the letters at its end stands for.
func parseCoordinate(s, letters string) (int, api.Errno) {
	last := max(0, len(s)-1)
	sign := 1
	switch s[last:] {
	case letters[:1]:
	case letters[1:]:
		sign = -1
	default:
		return 0, api.ErrForm
	}
	if strings.HasPrefix(s, "-") {
		return 0, api.ErrForm
	}
	size, e := angle.Parse(s[:last])
	return sign * size, e
}
