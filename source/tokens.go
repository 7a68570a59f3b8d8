package source

import (
	"strconv"
	"strings"

	"pairlegal/api"
	"pairlegal/types"
)

// signs has the longer ones first, so that the first one that stands at a place is the longest one there.
var signs = [...]string{
	"<<", ">>", "<=", ">=", "==", "!=", "&&", "||",
	"+", "-", "*", "/", "%", "&", "|", "^", "~", "!", "<", ">", "=",
	"(", ")", "{", "}", "[", "]", ",", ";",
}

// Tokens answers the tokens of a text; a fault's At is a byte of it.
func Tokens(s string) ([]api.Token, api.Fault) {
	if len(s) > api.MaxSource {
		return nil, api.Fault{Err: api.ErrMuch}
	}
	var out []api.Token
	for at := skipped(s, 0); at < len(s); {
		t, long, err := tokenOf(s[at:])
		if err != api.OK {
			return nil, api.Fault{Err: err, At: at}
		}
		t.At = at
		out = append(out, t)
		at = skipped(s, at+long)
	}
	return out, api.Fault{}
}

// skipped answers where the first byte from at on stands that belongs to a token.
func skipped(s string, at int) int {
	for at < len(s) {
		switch {
		case s[at] == ' ' || s[at] == '\t' || s[at] == '\n':
			at++
		case strings.HasPrefix(s[at:], "//"):
			at += remarkLength(s[at:])
		default:
			return at
		}
	}
	return at
}

func remarkLength(s string) int {
	if end := strings.IndexByte(s, '\n'); end >= 0 {
		return end
	}
	return len(s)
}

// tokenOf answers the token that s begins with, and how many bytes it takes.
func tokenOf(s string) (api.Token, int, api.Errno) {
	switch {
	case isLetter(s[0]):
		long := wordLength(s)
		return api.Token{Kind: api.TokName, Text: kept(s[:long])}, long, api.OK
	case isDigit(s[0]):
		return numberOf(s)
	}
	for _, sign := range signs {
		if strings.HasPrefix(s, sign) {
			return api.Token{Kind: api.TokSign, Text: sign}, len(sign), api.OK
		}
	}
	return api.Token{}, 0, api.ErrForm
}

// numberOf is for what begins with a digit.
func numberOf(s string) (api.Token, int, api.Errno) {
	long := 0
	for long < len(s) && isDigit(s[long]) {
		long++
	}
	digits := s[:long]
	unsigned := strings.HasPrefix(s[long:], "u")
	if unsigned {
		long++
	}
	n, tooLarge := strconv.ParseUint(digits, 10, 64)
	if tooLarge != nil {
		return api.Token{}, 0, api.ErrRange
	}
	t, err := types.Literal(n, unsigned)
	if err != api.OK {
		return api.Token{}, 0, err
	}
	return api.Token{Kind: api.TokNumber, Text: kept(digits), N: n, Type: t}, long, api.OK
}

// kept is a copy: a piece of the text would share its memory, and hold on to all of it.
func kept(s string) string { return strings.Clone(s) }
