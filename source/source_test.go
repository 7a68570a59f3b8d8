package source

import (
	"fmt"
	"regexp"
	"slices"
	"strings"
	"testing"

	"pairlegal/api"
)

// Types, by hand.
var (
	i8t  = api.Type{Bits: 8, Signed: true}
	u8t  = api.Type{Bits: 8}
	i16t = api.Type{Bits: 16, Signed: true}
	u16t = api.Type{Bits: 16}
	i32t = api.Type{Bits: 32, Signed: true}
	u32t = api.Type{Bits: 32}
	i64t = api.Type{Bits: 64, Signed: true}
	u64t = api.Type{Bits: 64}
)

// typeWords has the types as they are written.
func typeWords() map[string]api.Type {
	return map[string]api.Type{"i8": i8t, "u8": u8t, "i16": i16t, "u16": u16t, "i32": i32t, "u32": u32t, "i64": i64t, "u64": u64t}
}

// same holds two things against each other; nil is a list without entries.
func same(a, b any) bool { return fmt.Sprintf("%+v", a) == fmt.Sprintf("%+v", b) }

// short is a text as it may be told.
func short(s string) string {
	if len(s) > 300 {
		return s[:300] + ".."
	}
	return s
}

// Expressions.

func num(n uint64) api.Expr {
	t := i16t
	switch {
	case n > 1<<31-1:
		t = i64t
	case n > 1<<15-1:
		t = i32t
	}
	return api.Expr{Kind: api.CNum, N: n, Type: t}
}

func unum(n uint64) api.Expr {
	t := u16t
	switch {
	case n > 1<<32-1:
		t = u64t
	case n > 1<<16-1:
		t = u32t
	}
	return api.Expr{Kind: api.CNum, N: n, Type: t}
}

func name(s string) api.Expr { return api.Expr{Kind: api.CVar, Name: s} }

func at(s string, x api.Expr) api.Expr {
	return api.Expr{Kind: api.CAt, Name: s, Kids: []api.Expr{x}}
}

func call(s string, l ...api.Expr) api.Expr { return api.Expr{Kind: api.CCall, Name: s, Kids: l} }

func cast(t api.Type, x api.Expr) api.Expr {
	return api.Expr{Kind: api.CCast, Type: t, Kids: []api.Expr{x}}
}

func one(kind int, x api.Expr) api.Expr { return api.Expr{Kind: kind, Kids: []api.Expr{x}} }

func two(kind int, a, b api.Expr) api.Expr { return api.Expr{Kind: kind, Kids: []api.Expr{a, b}} }

// Statements.

func none() api.Stat { return api.Stat{Kind: api.SNone} }

func decl(t api.Type, s string) api.Stat { return api.Stat{Kind: api.SDecl, Type: t, Name: s} }

func declAs(t api.Type, s string, x api.Expr) api.Stat {
	return api.Stat{Kind: api.SDecl, Type: t, Name: s, Has: true, X: x}
}

func set(s string, x api.Expr) api.Stat { return api.Stat{Kind: api.SSet, Name: s, X: x} }

func setAt(s string, i, x api.Expr) api.Stat {
	return api.Stat{Kind: api.SSet, Name: s, Has: true, I: i, X: x}
}

func expr(x api.Expr) api.Stat { return api.Stat{Kind: api.SExpr, X: x} }

func ifs(x api.Expr, body, other []api.Stat) api.Stat {
	return api.Stat{Kind: api.SIf, X: x, Body: body, Else: other}
}

func while(x api.Expr, body ...api.Stat) api.Stat {
	return api.Stat{Kind: api.SWhile, X: x, Body: body}
}

func ret() api.Stat { return api.Stat{Kind: api.SReturn} }

func retOf(x api.Expr) api.Stat { return api.Stat{Kind: api.SReturn, Has: true, X: x} }

func block(l ...api.Stat) api.Stat { return api.Stat{Kind: api.SBlock, Body: l} }

func list(l ...api.Stat) []api.Stat { return l }

// Programs.

func funcs(l ...api.Func) api.Program { return api.Program{Funcs: l} }

func globals(l ...api.Global) api.Program { return api.Program{Globals: l} }

// body is a program of a function without parameters that tells nothing.
func body(l ...api.Stat) api.Program { return funcs(api.Func{Name: "f", Body: l}) }

// H1

var reserved = []string{"i8", "u8", "i16", "u16", "i32", "u32", "i64", "u64", "void", "if", "else", "while", "for", "return", "break", "continue"}

// nearly has words that are almost reserved.
func nearly() []string {
	out := []string{
		"", " ", "i", "u", "8", "16", "i1", "i4", "i6", "i24", "i128", "u1", "u128", "i08", "u016", "i 8", "i-8", "s8", "j16", "8i", "16u", "int", "uint", "int8", "u8u8", "ifelse",
		"do", "switch", "goto", "case", "default", "put", "get", "main", "true", "false", "bool", "struct", "const", "elif", "fo", "voids", "_if", "if_", "returns", "brk", "While", "FOR",
	}
	for _, w := range reserved {
		out = append(out, strings.ToUpper(w), strings.ToUpper(w[:1])+w[1:], w+"_", "_"+w, w+"0", w+"x", "x"+w, w[:len(w)-1], w[1:], " "+w, w+" ", w+"\n", "\t"+w, w+"\x00", w+";", w+w)
	}
	return out
}

func TestReserved(t *testing.T) {
	for _, w := range reserved {
		if !Reserved(w) {
			t.Errorf("Reserved(%q): false comes", w)
		}
	}
	for _, w := range nearly() {
		if got := Reserved(w); got != slices.Contains(reserved, w) {
			t.Errorf("Reserved(%q): %v comes", w, got)
		}
	}
}

var aName = regexp.MustCompile(`\A[a-zA-Z_][a-zA-Z0-9_]{0,31}\z`)

func TestNamed(t *testing.T) {
	holds := func(s string) {
		t.Helper()
		if got := Named(s); got != (aName.MatchString(s) && !slices.Contains(reserved, s)) {
			t.Errorf("Named(%q): %v comes", s, got)
		}
	}
	for _, w := range append(nearly(), reserved...) {
		holds(w)
	}
	for a := range 256 {
		holds(string([]byte{byte(a)}))
		for b := range 256 {
			holds(string([]byte{byte(a), byte(b)}))
			holds(string([]byte{'q', byte(a), byte(b)}))
		}
	}
	for _, n := range []int{1, 2, 30, 31, 32, 33, 34, 64, 1000, 1 << 20} {
		for _, c := range []string{"a", "Z", "_", "0", "é"} {
			holds(strings.Repeat(c, n))
			holds("x" + strings.Repeat(c, n-1))
			holds(strings.Repeat("y", n-1) + c)
		}
	}
	for k := range 32 {
		for _, c := range []string{"-", ".", " ", "$", "\n", "\x00", "(", "\xff", "@", "[", "`", "{", "/", ":"} {
			holds(strings.Repeat("n", k) + c + strings.Repeat("m", 31-k))
		}
		holds(strings.Repeat("n", k) + "7" + strings.Repeat("m", 31-k))
	}
}

func TestNamedByHand(t *testing.T) {
	for _, s := range []string{"x", "_", "A", "z9", "a_b", "__", "_0", "main", "put", "get", "i", "u", "i9", "I16", "If", "u8_", "abcdefghijklmnopqrstuvwxyz_ABCDE"} {
		if !Named(s) {
			t.Errorf("Named(%q): false comes", s)
		}
	}
	for _, s := range []string{"", "9", "0x", "9a", "a b", "a-b", "x ", " x", "if", "void", "i8", "u64", "é", "x.y", ".x", "abcdefghijklmnopqrstuvwxyz_ABCDEF"} {
		if Named(s) {
			t.Errorf("Named(%q): true comes", s)
		}
	}
}

// told is a program as a test may tell it, if it is not without end.
func told(p api.Program) string {
	if Wrong(p) == api.ErrMuch {
		return "too much"
	}
	return fmt.Sprintf("%+v", p)
}
