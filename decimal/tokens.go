package decimal

import (
	"strings"

	"almucantar/api"
)

// Tokens returns the tokens of a text; with ErrForm, the position of what is wrong.
func Tokens(s string) ([]api.Token, api.Pos, api.Errno) {
	if len(s) > api.MaxText {
		return nil, api.Pos{}, api.ErrFull
	}
	r := reader{text: s, line: 1}
	for r.at < len(s) {
		if !r.step() {
			return nil, r.position(), api.ErrForm
		}
	}
	r.take(api.TokEnd, r.at)
	return r.tokens, api.Pos{}, api.OK
}

// IsName reports whether a string is a name.
func IsName(s string) bool {
	return s != "" && len(s) <= api.MaxName && isLetter(s[0]) && endOfRun(s, 0, isWordByte) == len(s)
}

// reader is a text that has been read up to the index at.
type reader struct {
	text      string
	at        int
	line      int
	lineStart int // the index of the first byte of the line
	tokens    []api.Token
}

// step passes a blank, a comment, or a token; where none of these begins it stays, and reports false.
func (r *reader) step() bool {
	first := r.text[r.at]
	switch {
	case first == ' ' || first == '\t':
		r.at++
	case first == '\n':
		r.takeLine()
	case first == '#':
		r.at = endOfRun(r.text, r.at, isNotNewline)
	case isLetter(first):
		end := endOfRun(r.text, r.at, isWordByte)
		if end-r.at > api.MaxName {
			return false
		}
		r.take(api.TokName, end)
	case isDigit(first):
		r.take(api.TokNumber, endOfNumber(r.text, r.at))
	case isSymbol(first):
		r.take(api.TokSymbol, r.at+1)
	default:
		return false
	}
	return true
}

// take makes a token of the bytes up to the end, and passes them.
func (r *reader) take(kind, end int) {
	// The text is cloned, so that a token that is kept does not keep the whole source.
	text := strings.Clone(r.text[r.at:end])
	r.tokens = append(r.tokens, api.Token{Kind: kind, Text: text, At: r.position()})
	r.at = end
}

// takeLine makes a token without a text of a newline, and passes it.
func (r *reader) takeLine() {
	r.take(api.TokLine, r.at)
	r.at++
	r.line++
	r.lineStart = r.at
}

func (r *reader) position() api.Pos {
	return api.Pos{Line: r.line, Column: r.at - r.lineStart + 1}
}

// endOfNumber returns the index after the number that begins at the index.
func endOfNumber(s string, at int) int {
	end := endOfRun(s, at, isDigit)
	// A point belongs to the number only if a digit follows it.
	if end+1 < len(s) && s[end] == '.' && isDigit(s[end+1]) {
		return endOfRun(s, end+1, isDigit)
	}
	return end
}

// endOfRun returns the index of the first byte from the index on that does not belong, or the length.
func endOfRun(s string, at int, belongs func(byte) bool) int {
	for at < len(s) && belongs(s[at]) {
		at++
	}
	return at
}

func isLetter(c byte) bool { return c >= 'a' && c <= 'z' || c >= 'A' && c <= 'Z' }

func isDigit(c byte) bool { return c >= '0' && c <= '9' }

func isWordByte(c byte) bool { return isLetter(c) || isDigit(c) || c == '_' }

func isNotNewline(c byte) bool { return c != '\n' }

func isSymbol(c byte) bool { return strings.IndexByte("-+:,;/=()<>*@?", c) >= 0 }
