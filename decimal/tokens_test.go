package decimal_test

import (
	"regexp"
	"slices"
	"strings"
	"testing"

	"almucantar/api"
	"almucantar/decimal"
)

const symbols = "-+:,;/=()<>*@?"

func wantTokens(t *testing.T, s string, want []api.Token) {
	t.Helper()
	if l, at, e := decimal.Tokens(s); !slices.Equal(l, want) || at != (api.Pos{}) || e != api.OK {
		t.Errorf("Tokens(%q) = %v, %v, %d; want %v", s, l, at, e, want)
	}
}

func wantTokensError(t *testing.T, s string, wantAt api.Pos, want api.Errno) {
	t.Helper()
	if l, at, e := decimal.Tokens(s); len(l) != 0 || at != wantAt || e != want {
		t.Errorf("Tokens of %d bytes = %v, %v, %d; want %v, %d", len(s), l, at, e, wantAt, want)
	}
}

func token(kind int, text string, line, column int) api.Token {
	return api.Token{Kind: kind, Text: text, At: api.Pos{Line: line, Column: column}}
}

// P1.5: the example of the chapter, and positions over several lines.
func TestTokensExamples(t *testing.T) {
	wantTokens(t, "41-23.4N # dr", []api.Token{
		token(api.TokNumber, "41", 1, 1),
		token(api.TokSymbol, "-", 1, 3),
		token(api.TokNumber, "23.4", 1, 4),
		token(api.TokName, "N", 1, 8),
		token(api.TokEnd, "", 1, 14),
	})
	wantTokens(t, "", []api.Token{token(api.TokEnd, "", 1, 1)})
	wantTokens(t, " \t ", []api.Token{token(api.TokEnd, "", 1, 4)})
	wantTokens(t, "#", []api.Token{token(api.TokEnd, "", 1, 2)})
	wantTokens(t, "\n\n", []api.Token{
		token(api.TokLine, "", 1, 1),
		token(api.TokLine, "", 2, 1),
		token(api.TokEnd, "", 3, 1),
	})
	wantTokens(t, "a_1 \t#b #c\n  12b@", []api.Token{
		token(api.TokName, "a_1", 1, 1),
		token(api.TokLine, "", 1, 11),
		token(api.TokNumber, "12", 2, 3),
		token(api.TokName, "b", 2, 5),
		token(api.TokSymbol, "@", 2, 6),
		token(api.TokEnd, "", 2, 7),
	})
}

// P1.5: any bytes may stand in a comment, which leaves the newline.
func TestCommentsHaveAnyBytes(t *testing.T) {
	for c := range 256 {
		if c == '\n' {
			continue
		}
		wantTokens(t, "#"+string([]byte{byte(c)})+"\n", []api.Token{
			token(api.TokLine, "", 1, 3),
			token(api.TokEnd, "", 2, 1),
		})
	}
	wantTokens(t, "#"+strings.Repeat("x", 100), []api.Token{token(api.TokEnd, "", 1, 102)})
}

// P1.5: what each byte begins, and that no other byte begins anything.
func TestEachByte(t *testing.T) {
	for c := range 256 {
		s := string([]byte{byte(c)})
		switch {
		case c == '\n':
			wantTokens(t, s, []api.Token{token(api.TokLine, "", 1, 1), token(api.TokEnd, "", 2, 1)})
		case c == ' ' || c == '\t' || c == '#':
			wantTokens(t, s, []api.Token{token(api.TokEnd, "", 1, 2)})
		case c >= 'a' && c <= 'z' || c >= 'A' && c <= 'Z':
			wantTokens(t, s, []api.Token{token(api.TokName, s, 1, 1), token(api.TokEnd, "", 1, 2)})
		case c >= '0' && c <= '9':
			wantTokens(t, s, []api.Token{token(api.TokNumber, s, 1, 1), token(api.TokEnd, "", 1, 2)})
		case strings.Contains(symbols, s):
			wantTokens(t, s, []api.Token{token(api.TokSymbol, s, 1, 1), token(api.TokEnd, "", 1, 2)})
		default:
			wantTokensError(t, s, api.Pos{Line: 1, Column: 1}, api.ErrForm)
			wantTokensError(t, "a\n\n 1"+s+"=", api.Pos{Line: 3, Column: 3}, api.ErrForm)
		}
	}
}

// P1.5: a point belongs to a number only if a digit follows, and only once.
func TestPointsOfNumbers(t *testing.T) {
	wantTokens(t, "007.50", []api.Token{token(api.TokNumber, "007.50", 1, 1), token(api.TokEnd, "", 1, 7)})
	long := strings.Repeat("9", 100) + "." + strings.Repeat("0", 100)
	wantTokens(t, long, []api.Token{token(api.TokNumber, long, 1, 1), token(api.TokEnd, "", 1, 202)})
	wantTokensError(t, "1.", api.Pos{Line: 1, Column: 2}, api.ErrForm)
	wantTokensError(t, "12. 5", api.Pos{Line: 1, Column: 3}, api.ErrForm)
	wantTokensError(t, "1.x", api.Pos{Line: 1, Column: 2}, api.ErrForm)
	wantTokensError(t, "1..2", api.Pos{Line: 1, Column: 2}, api.ErrForm)
	wantTokensError(t, "1.2.3", api.Pos{Line: 1, Column: 4}, api.ErrForm)
	wantTokensError(t, "x .5", api.Pos{Line: 1, Column: 3}, api.ErrForm)
	wantTokensError(t, "1_", api.Pos{Line: 1, Column: 2}, api.ErrForm)
}

// P1.5: names of MaxName bytes, and one more.
func TestLengthsOfWords(t *testing.T) {
	name := "A" + strings.Repeat("z_9", 6) + "Z"
	if len(name) != api.MaxName {
		t.Fatal(len(name))
	}
	wantTokens(t, name+" "+name, []api.Token{
		token(api.TokName, name, 1, 1),
		token(api.TokName, name, 1, 22),
		token(api.TokEnd, "", 1, 42),
	})
	for _, more := range []string{"x", "0", "_", strings.Repeat("x", 1000)} {
		wantTokensError(t, "1\n-"+name+more+" $", api.Pos{Line: 2, Column: 2}, api.ErrForm)
		wantTokensError(t, "1\n$"+name+more, api.Pos{Line: 2, Column: 1}, api.ErrForm)
	}
}

// P1.5: texts of MaxText bytes, and one more, which comes before any other error and has no position.
func TestLengthsOfTexts(t *testing.T) {
	l, at, e := decimal.Tokens(strings.Repeat("-", api.MaxText))
	if len(l) != api.MaxText+1 || at != (api.Pos{}) || e != api.OK {
		t.Fatal(len(l), at, e)
	}
	for i, k := range l[:api.MaxText] {
		if k != token(api.TokSymbol, "-", 1, i+1) {
			t.Fatal(i, k)
		}
	}
	if last := l[api.MaxText]; last != token(api.TokEnd, "", 1, api.MaxText+1) {
		t.Error(last)
	}
	wantTokens(t, strings.Repeat(" ", api.MaxText), []api.Token{token(api.TokEnd, "", 1, api.MaxText+1)})
	wantTokensError(t, strings.Repeat(" ", api.MaxText-1)+"$", api.Pos{Line: 1, Column: api.MaxText}, api.ErrForm)
	wantTokensError(t, strings.Repeat(" ", api.MaxText+1), api.Pos{}, api.ErrFull)
	wantTokensError(t, "$"+strings.Repeat("\n", api.MaxText), api.Pos{}, api.ErrFull)
	wantTokensError(t, strings.Repeat("x", api.MaxText+1), api.Pos{}, api.ErrFull)
}

var tokenPatterns = []struct {
	kind    int
	pattern *regexp.Regexp
}{
	{0, regexp.MustCompile(`^[ \t]`)},
	{0, regexp.MustCompile(`^#[^\n]*`)},
	{api.TokLine, regexp.MustCompile(`^\n`)},
	{api.TokName, regexp.MustCompile(`^[A-Za-z][A-Za-z0-9_]*`)},
	{api.TokNumber, regexp.MustCompile(`^[0-9]+(\.[0-9]+)?`)},
	{api.TokSymbol, regexp.MustCompile(`^[-+:,;/=()<>*@?]`)},
}

// patternTokens returns the tokens of a text without long words, or the position of its first wrong byte.
func patternTokens(s string) ([]api.Token, api.Pos, bool) {
	var l []api.Token
	for at := 0; at < len(s); {
		before := s[:at]
		pos := api.Pos{Line: 1 + strings.Count(before, "\n"), Column: at - strings.LastIndex(before, "\n")}
		kind, text := firstMatch(s[at:])
		if text == "" {
			return nil, pos, false
		}
		at += len(text)
		if kind == api.TokLine {
			text = ""
		}
		if kind != 0 {
			l = append(l, api.Token{Kind: kind, Text: text, At: pos})
		}
	}
	end := api.Pos{Line: 1 + strings.Count(s, "\n"), Column: len(s) - strings.LastIndex(s, "\n")}
	return append(l, api.Token{Kind: api.TokEnd, At: end}), api.Pos{}, true
}

func firstMatch(s string) (int, string) {
	for _, p := range tokenPatterns {
		if text := p.pattern.FindString(s); text != "" {
			return p.kind, text
		}
	}
	return 0, ""
}

// P1.5: all short texts over some bytes, compared with patterns.
func TestTokensAgreeWithPatterns(t *testing.T) {
	everyString(" \n#aZ_05.-", 5, func(s string) {
		l, at, ok := patternTokens(s)
		if ok {
			wantTokens(t, s, l)
		} else {
			wantTokensError(t, s, at, api.ErrForm)
		}
	})
}

// P1.5: a name is a word of 1 to MaxName bytes, and nothing else.
func TestIsName(t *testing.T) {
	everyString("aZ_09- \n.#", 4, func(s string) {
		want := regexp.MustCompile(`^[A-Za-z][A-Za-z0-9_]*$`).MatchString(s)
		if decimal.IsName(s) != want {
			t.Errorf("IsName(%q) is not %v", s, want)
		}
	})
	for length := range 40 {
		for _, s := range []string{strings.Repeat("n", length), strings.Repeat("n", max(length-1, 0)) + "_"} {
			if want := s != "" && s[0] == 'n' && len(s) <= api.MaxName; decimal.IsName(s) != want {
				t.Errorf("IsName(%q) is not %v", s, want)
			}
		}
	}
	for c := range 256 {
		s := string([]byte{byte(c)})
		if want := regexp.MustCompile(`^[A-Za-z]$`).MatchString(s); decimal.IsName(s) != want {
			t.Errorf("IsName(%q) is not %v", s, want)
		}
		if want := regexp.MustCompile(`^a[A-Za-z0-9_]$`).MatchString("a" + s); decimal.IsName("a"+s) != want {
			t.Errorf("IsName(%q) is not %v", "a"+s, want)
		}
	}
	for _, s := range []string{"Véga", "é", "a\x00", "\xff", strings.Repeat("n", 5000)} {
		if decimal.IsName(s) {
			t.Errorf("IsName(%q)", s)
		}
	}
}

// P1.6: the texts of the tokens of a line, joined with spaces, have the same tokens.
func TestTokensOfJoinedTexts(t *testing.T) {
	everyString(" #aZ_05.-", 5, func(s string) {
		l, _, e := decimal.Tokens(s)
		if e != api.OK {
			return
		}
		var texts []string
		for _, k := range l {
			texts = append(texts, k.Text)
		}
		again, _, e := decimal.Tokens(strings.Join(texts, " "))
		same := slices.EqualFunc(l, again, func(a, b api.Token) bool { return a.Kind == b.Kind && a.Text == b.Text })
		if e != api.OK || !same {
			t.Errorf("%q: %v, %v, %d", s, l, again, e)
		}
	})
}

// P1: results do not share memory, so that a caller may change one.
func TestTokensAreNewEachTime(t *testing.T) {
	const s = "a 1 -"
	first, _, _ := decimal.Tokens(s)
	want := slices.Clone(first)
	clear(first)
	wantTokens(t, s, want)
}
