package check

import (
	"fmt"
	"slices"
	"strings"
	"testing"

	"pairlegal/api"
	"pairlegal/source"
)

// Types, by hand.
var (
	i8t  = api.Type{Bits: 8, Signed: true}
	u8t  = api.Type{Bits: 8}
	i16t = api.Type{Bits: 16, Signed: true}
	u16t = api.Type{Bits: 16}
	i32t = api.Type{Bits: 32, Signed: true}
	u32t = api.Type{Bits: 32}
	i64t = api.Type{Bits: 64, Signed: true}
	u64t = api.Type{Bits: 64}
)

var typeNames = []string{"i8", "u8", "i16", "u16", "i32", "u32", "i64", "u64"}

// typeWords has how many words the types take, in that order.
var typeWords = []int{1, 1, 1, 1, 2, 2, 4, 4}

// typesInOrder has them in that order.
var typesInOrder = []api.Type{i8t, u8t, i16t, u16t, i32t, u32t, i64t, u64t}

// typeOfName is the type that is written so; that of nothing is `void`.
func typeOfName(s string) api.Type {
	if i := slices.Index(typeNames, s); i >= 0 {
		return typesInOrder[i]
	}
	return api.Type{}
}

func nameOfType(t api.Type) string {
	if i := slices.Index(typesInOrder, t); i >= 0 {
		return typeNames[i]
	}
	if t == (api.Type{}) {
		return "void"
	}
	return fmt.Sprint(t)
}

// common is the type of what two numbers make together, pair by pair, in the order of typeNames.
var common = strings.Fields(`
	i16 i16 i16 u16 i32 u32 i64 u64
	i16 i16 i16 u16 i32 u32 i64 u64
	i16 i16 i16 u16 i32 u32 i64 u64
	u16 u16 u16 u16 i32 u32 i64 u64
	i32 i32 i32 i32 i32 u32 i64 u64
	u32 u32 u32 u32 u32 u32 i64 u64
	i64 i64 i64 i64 i64 i64 i64 u64
	u64 u64 u64 u64 u64 u64 u64 u64`)

// promoted has what becomes of each type, in that order.
var promoted = []string{"i16", "i16", "i16", "u16", "i32", "u32", "i64", "u64"}

// Signs of two kids, and their kinds.
var twoSigns = map[string]int{
	"*": api.CMul, "/": api.CDiv, "%": api.CRem, "+": api.CAdd, "-": api.CSub, "<<": api.CShl, ">>": api.CShr,
	"<": api.CLt, "<=": api.CLe, ">": api.CGt, ">=": api.CGe, "==": api.CEq, "!=": api.CNe,
	"&": api.CAnd, "^": api.CXor, "|": api.COr, "&&": api.CLand, "||": api.CLor,
}

// read makes a program of a text that is one.
func read(t *testing.T, text string) api.Program {
	t.Helper()
	p, f := source.Read(text)
	if f.Err != api.OK {
		t.Fatalf("Read(%.300q): %v comes", text, f)
	}
	return p
}

// readExpr makes an expression of a text that is one.
func readExpr(t *testing.T, text string) api.Expr {
	t.Helper()
	return read(t, "i16 x = "+text+";").Globals[0].Init[0]
}

// told is a program as a test may tell it.
func told(p api.Program) string {
	if text, err := source.Show(p); err == api.OK {
		return text
	}
	if source.Wrong(p) == api.ErrMuch {
		return "too much"
	}
	return fmt.Sprintf("%+v", p)
}

// answers holds what Check says of a program against what it must say.
func answers(t *testing.T, p api.Program, err api.Errno, at int) {
	t.Helper()
	if got, want := Check(p), (api.Fault{Err: err, At: at}); got != want {
		t.Errorf("Check: %v comes, not %v, of\n%.2000s", got, want, told(p))
	}
}

// says does so with the program that a text is.
func says(t *testing.T, text string, err api.Errno, at int) {
	t.Helper()
	answers(t, read(t, text), err, at)
}

// right is a text with which nothing is wrong.
func right(t *testing.T, text string) {
	t.Helper()
	says(t, text, api.OK, 0)
}

// Expressions.

func num(n uint64) api.Expr { return api.Expr{Kind: api.CNum, N: n, Type: i16t} }

func name(s string) api.Expr { return api.Expr{Kind: api.CVar, Name: s} }

func at(s string, x api.Expr) api.Expr {
	return api.Expr{Kind: api.CAt, Name: s, Kids: []api.Expr{x}}
}

func call(s string, l ...api.Expr) api.Expr { return api.Expr{Kind: api.CCall, Name: s, Kids: l} }

func cast(t api.Type, x api.Expr) api.Expr {
	return api.Expr{Kind: api.CCast, Type: t, Kids: []api.Expr{x}}
}

func one(kind int, x api.Expr) api.Expr { return api.Expr{Kind: kind, Kids: []api.Expr{x}} }

func two(kind int, a, b api.Expr) api.Expr { return api.Expr{Kind: kind, Kids: []api.Expr{a, b}} }

// Statements.

func none() api.Stat { return api.Stat{Kind: api.SNone} }

func decl(t api.Type, s string) api.Stat { return api.Stat{Kind: api.SDecl, Type: t, Name: s} }

func expr(x api.Expr) api.Stat { return api.Stat{Kind: api.SExpr, X: x} }

func list(l ...api.Stat) []api.Stat { return l }

// mainOf is a function main of statements.
func mainOf(l ...api.Stat) api.Func { return api.Func{Name: "main", Body: l} }
