package source

import (
	"math/big"
	"regexp"
	"slices"
	"strings"
	"testing"

	"pairlegal/api"
)

func word(s string, at int) api.Token { return api.Token{Kind: api.TokName, Text: s, At: at} }

func sign(s string, at int) api.Token { return api.Token{Kind: api.TokSign, Text: s, At: at} }

func number(s string, n uint64, t api.Type, at int) api.Token {
	return api.Token{Kind: api.TokNumber, Text: s, N: n, Type: t, At: at}
}

func hasTokens(t *testing.T, s string, want ...api.Token) {
	t.Helper()
	if got, f := Tokens(s); !slices.Equal(got, want) || f != (api.Fault{}) {
		t.Errorf("Tokens(%q): %+v, %v comes, not %+v", short(s), got, f, want)
	}
}

func failsTokens(t *testing.T, s string, err api.Errno, at int) {
	t.Helper()
	if got, f := Tokens(s); len(got) != 0 || f.Err != err || f.At != at {
		t.Errorf("Tokens(%q): %d tokens, %v comes, not %d at %d", short(s), len(got), f, err, at)
	}
}

var allSigns = strings.Fields("+ - * / % & | ^ ~ ! < > = ( ) { } [ ] , ; << >> <= >= == != && ||")

// H2

func TestTokensByHand(t *testing.T) {
	hasTokens(t, "")
	hasTokens(t, "x", word("x", 0))
	hasTokens(t, "i16 x1;", word("i16", 0), word("x1", 4), sign(";", 6))
	hasTokens(t, "if(else_9)", word("if", 0), sign("(", 2), word("else_9", 3), sign(")", 9))
	hasTokens(t, "_ __ A_z0", word("_", 0), word("__", 2), word("A_z0", 5))
	hasTokens(t, "1x", number("1", 1, i16t, 0), word("x", 1))
	hasTokens(t, "12u8", number("12", 12, u16t, 0), number("8", 8, i16t, 3))
	hasTokens(t, "12uu", number("12", 12, u16t, 0), word("u", 3))
	hasTokens(t, "12ux", number("12", 12, u16t, 0), word("x", 3))
	hasTokens(t, "12 u", number("12", 12, i16t, 0), word("u", 3))
	hasTokens(t, "12U", number("12", 12, i16t, 0), word("U", 2))
	hasTokens(t, "u12", word("u12", 0))
	hasTokens(t, "0x10", number("0", 0, i16t, 0), word("x10", 1))
	hasTokens(t, "1_0", number("1", 1, i16t, 0), word("_0", 1))
	hasTokens(t, "-5", sign("-", 0), number("5", 5, i16t, 1))
	hasTokens(t, "<<=>>=", sign("<<", 0), sign("=", 2), sign(">>", 3), sign("=", 5))
	hasTokens(t, "<=<", sign("<=", 0), sign("<", 2))
	hasTokens(t, "===", sign("==", 0), sign("=", 2))
	hasTokens(t, "!==", sign("!=", 0), sign("=", 2))
	hasTokens(t, "&&&|||", sign("&&", 0), sign("&", 2), sign("||", 3), sign("|", 5))
	hasTokens(t, "--++", sign("-", 0), sign("-", 1), sign("+", 2), sign("+", 3))
	hasTokens(t, "< <= =", sign("<", 0), sign("<=", 2), sign("=", 5))
	hasTokens(t, "a[1]", word("a", 0), sign("[", 1), number("1", 1, i16t, 2), sign("]", 3))
	long := strings.Repeat("n", 40)
	hasTokens(t, long, word(long, 0))
}

func TestEachSignAlone(t *testing.T) {
	for _, s := range allSigns {
		hasTokens(t, s, sign(s, 0))
		hasTokens(t, " "+s+" ", sign(s, 1))
		hasTokens(t, "a"+s+"b", word("a", 0), sign(s, 1), word("b", 1+len(s)))
		hasTokens(t, "1"+s+"2u", number("1", 1, i16t, 0), sign(s, 1), number("2", 2, u16t, 1+len(s)))
		hasTokens(t, s+" //"+s, sign(s, 0))
	}
}

// Each byte by itself: of 256 only these begin something.
func TestEachByte(t *testing.T) {
	const one = "+-*/%&|^~!<>=(){}[],;"
	for c := range 256 {
		s := string([]byte{byte(c)})
		switch {
		case strings.Contains(" \t\n", s):
			hasTokens(t, s)
		case strings.Contains(one, s):
			hasTokens(t, s, sign(s, 0))
		case c >= '0' && c <= '9':
			hasTokens(t, s, number(s, uint64(c-'0'), i16t, 0))
		case c >= 'a' && c <= 'z' || c >= 'A' && c <= 'Z' || c == '_':
			hasTokens(t, s, word(s, 0))
		default:
			failsTokens(t, s, api.ErrForm, 0)
			failsTokens(t, "x"+s, api.ErrForm, 1)
			failsTokens(t, "7u"+s+"#", api.ErrForm, 2)
			failsTokens(t, " \n\t<="+s, api.ErrForm, 5)
			hasTokens(t, "//"+s+"\nx", word("x", 4))
		}
	}
}

func TestRemarksAndBlanks(t *testing.T) {
	for _, s := range []string{" ", "\t", "\n", " \t\n\t \n", "//", "//\n", "// x", " //x y\n", "\n//\n//\n", "///", "////", "//#\x00\xff", "// x // y", "//\r\n"} {
		hasTokens(t, s)
		hasTokens(t, s+"\na", word("a", len(s)+1))
		hasTokens(t, "a"+s, word("a", 0))
		hasTokens(t, "5"+s, number("5", 5, i16t, 0))
		hasTokens(t, "<"+s, sign("<", 0))
	}
	hasTokens(t, "a//b\nc", word("a", 0), word("c", 5))
	hasTokens(t, "a / / b", word("a", 0), sign("/", 2), sign("/", 4), word("b", 6))
	hasTokens(t, "a/\n/b", word("a", 0), sign("/", 1), sign("/", 3), word("b", 4))
	hasTokens(t, "/ //", sign("/", 0))
	hasTokens(t, "a /*b*/", word("a", 0), sign("/", 2), sign("*", 3), word("b", 4), sign("*", 5), sign("/", 6))
	hasTokens(t, "a b\tc\nd", word("a", 0), word("b", 2), word("c", 4), word("d", 6))
	hasTokens(t, "< < //\n=", sign("<", 0), sign("<", 2), sign("=", 7))
	for _, s := range []string{"\r", "\v", "\f", "\u00a0", "\u0085", "\u2003", "\x00"} {
		failsTokens(t, s, api.ErrForm, 0)
		failsTokens(t, "x;"+s+"\n", api.ErrForm, 2)
		hasTokens(t, "//"+s)
	}
}

// bounds are where the types of numbers change, and the numbers next to them.
func bounds() []*big.Int {
	var out []*big.Int
	for _, bits := range []uint{0, 3, 8, 15, 16, 31, 32, 63, 64, 65, 100} {
		for d := int64(-2); d <= 2; d++ {
			n := new(big.Int).Lsh(big.NewInt(1), bits)
			if n.Add(n, big.NewInt(d)); n.Sign() >= 0 {
				out = append(out, n)
			}
		}
	}
	return append(out, new(big.Int).Exp(big.NewInt(10), big.NewInt(500), nil))
}

// literal is the type of a number by the document's words; false, if there is none.
func literal(n *big.Int, unsigned bool) (api.Type, bool) {
	for _, bits := range []int{16, 32, 64} {
		has := bits - 1
		if unsigned {
			has = bits
		}
		if n.BitLen() <= has {
			return api.Type{Bits: bits, Signed: !unsigned}, true
		}
	}
	return api.Type{}, false
}

func TestNumbersAtTheirBounds(t *testing.T) {
	for _, n := range bounds() {
		for _, noughts := range []string{"", "0", "00", "000000000000000000000000000"} {
			for _, u := range []string{"", "u"} {
				digits := noughts + n.String()
				is, ok := literal(n, u == "u")
				if !ok {
					failsTokens(t, digits+u, api.ErrRange, 0)
					failsTokens(t, "a ="+digits+u+"#", api.ErrRange, 3)
					continue
				}
				hasTokens(t, digits+u, number(digits, n.Uint64(), is, 0))
				hasTokens(t, "\t"+digits+u+";", number(digits, n.Uint64(), is, 1), sign(";", 1+len(digits+u)))
			}
		}
	}
}

func TestNumbersByHand(t *testing.T) {
	hasTokens(t, "0", number("0", 0, i16t, 0))
	hasTokens(t, "0u", number("0", 0, u16t, 0))
	hasTokens(t, "007", number("007", 7, i16t, 0))
	hasTokens(t, "000u", number("000", 0, u16t, 0))
	hasTokens(t, "32767", number("32767", 32767, i16t, 0))
	hasTokens(t, "32768", number("32768", 32768, i32t, 0))
	hasTokens(t, "65535u", number("65535", 65535, u16t, 0))
	hasTokens(t, "65536u", number("65536", 65536, u32t, 0))
	hasTokens(t, "2147483647", number("2147483647", 1<<31-1, i32t, 0))
	hasTokens(t, "2147483648", number("2147483648", 1<<31, i64t, 0))
	hasTokens(t, "4294967295u", number("4294967295", 1<<32-1, u32t, 0))
	hasTokens(t, "4294967296u", number("4294967296", 1<<32, u64t, 0))
	hasTokens(t, "9223372036854775807", number("9223372036854775807", 1<<63-1, i64t, 0))
	failsTokens(t, "9223372036854775808", api.ErrRange, 0)
	hasTokens(t, "9223372036854775808u", number("9223372036854775808", 1<<63, u64t, 0))
	hasTokens(t, "18446744073709551615u", number("18446744073709551615", 1<<64-1, u64t, 0))
	failsTokens(t, "18446744073709551615", api.ErrRange, 0)
	failsTokens(t, "18446744073709551616", api.ErrRange, 0)
	failsTokens(t, "18446744073709551616u", api.ErrRange, 0)
	hasTokens(t, strings.Repeat("0", 65535)+"1", number(strings.Repeat("0", 65535)+"1", 1, i16t, 0))
	failsTokens(t, strings.Repeat("9", 65535)+"u", api.ErrRange, 0)
}

func TestFirstFaultOfTokens(t *testing.T) {
	failsTokens(t, "#", api.ErrForm, 0)
	failsTokens(t, "a # 99999999999999999999", api.ErrForm, 2)
	failsTokens(t, "a 99999999999999999999 #", api.ErrRange, 2)
	failsTokens(t, "99999999999999999999#", api.ErrRange, 0)
	failsTokens(t, "1 2\n// #\n  9223372036854775808 \x00", api.ErrRange, 11)
	failsTokens(t, "a\"b\"", api.ErrForm, 1)
	failsTokens(t, "'a'", api.ErrForm, 0)
	failsTokens(t, "a.b", api.ErrForm, 1)
	failsTokens(t, "x ? y : z", api.ErrForm, 2)
	failsTokens(t, "x\\\n", api.ErrForm, 1)
	failsTokens(t, "é", api.ErrForm, 0)
	failsTokens(t, "né", api.ErrForm, 1)
}

func TestMuchToRead(t *testing.T) {
	full := strings.Repeat("a", api.MaxSource)
	hasTokens(t, full, word(full, 0))
	hasTokens(t, strings.Repeat(" ", api.MaxSource-1)+"b", word("b", api.MaxSource-1))
	hasTokens(t, "//"+strings.Repeat("#", api.MaxSource-2))
	failsTokens(t, strings.Repeat(" ", api.MaxSource-1)+"#", api.ErrForm, api.MaxSource-1)
	for _, c := range []string{"a", " ", "#", "9", "\n", "/", "("} {
		failsTokens(t, strings.Repeat(c, api.MaxSource+1), api.ErrMuch, 0)
		failsTokens(t, strings.Repeat(c, 3*api.MaxSource), api.ErrMuch, 0)
	}
	failsTokens(t, "#"+full, api.ErrMuch, 0)
	if got, f := Tokens(strings.Repeat("(", api.MaxSource)); len(got) != api.MaxSource || f != (api.Fault{}) || got[api.MaxSource-1] != sign("(", api.MaxSource-1) {
		t.Errorf("Tokens of a full text: %d tokens, %v comes", len(got), f)
	}
}

var (
	makesNone = regexp.MustCompile(`\A(?:[ \t\n]|//[^\n]*)*`)
	aWord     = regexp.MustCompile(`\A[a-zA-Z_][a-zA-Z0-9_]*`)
	aNumber   = regexp.MustCompile(`\A([0-9]+)(u?)`)
	aSign     = regexp.MustCompile(`\A(?:<<|>>|<=|>=|==|!=|&&|\|\||[-+*/%&|^~!<>=(){}\[\],;])`)
)

// tokensMust is Tokens by regular expressions.
func tokensMust(s string) ([]api.Token, api.Fault) {
	var out []api.Token
	at := len(makesNone.FindString(s))
	for at < len(s) {
		rest := s[at:]
		took := ""
		if w := aWord.FindString(rest); w != "" {
			out = append(out, word(w, at))
			took = w
		} else if m := aNumber.FindStringSubmatch(rest); m != nil {
			n, _ := new(big.Int).SetString(m[1], 10)
			is, ok := literal(n, m[2] == "u")
			if !ok {
				return nil, api.Fault{Err: api.ErrRange, At: at}
			}
			out = append(out, number(m[1], n.Uint64(), is, at))
			took = m[0]
		} else if took = aSign.FindString(rest); took != "" {
			out = append(out, sign(took, at))
		} else {
			return nil, api.Fault{Err: api.ErrForm, At: at}
		}
		at += len(took)
		at += len(makesNone.FindString(s[at:]))
	}
	return out, api.Fault{}
}

func holdsTokens(t *testing.T, s string) {
	t.Helper()
	want, wantF := tokensMust(s)
	if got, f := Tokens(s); !slices.Equal(got, want) || f != wantF {
		t.Fatalf("Tokens(%q): %+v, %v comes, not %+v, %v", s, got, f, want, wantF)
	}
}

// allTexts calls do with each text of up to so many of the pieces.
func allTexts(pieces []string, most int, do func(s string)) {
	var more func(s string, left int)
	more = func(s string, left int) {
		do(s)
		if left == 0 {
			return
		}
		for _, p := range pieces {
			more(s+p, left-1)
		}
	}
	more("", most)
}

func TestTokensOfAllShortTexts(t *testing.T) {
	allTexts([]string{"a", "u", "_", "0", "7", " ", "\n", "/", "<", ">", "=", "!", "&", "|", "-", "#"}, 4, func(s string) { holdsTokens(t, s) })
	allTexts([]string{"u", "1", "\n", "/", "<", "=", "&"}, 6, func(s string) { holdsTokens(t, s) })
	allTexts([]string{"9223372036854775807", "9223372036854775808", "18446744073709551615", "18446744073709551616", "0", "u", " ", "x"}, 4, func(s string) { holdsTokens(t, s) })
}

func TestSignsBesideSigns(t *testing.T) {
	allTexts(allSigns, 3, func(s string) { holdsTokens(t, s) })
}
