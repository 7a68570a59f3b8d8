package fold

import (
	"fmt"
	"reflect"
	"strings"
	"testing"

	"pairlegal/api"
	"pairlegal/source"
)

// Types, by hand.
var (
	i8t  = api.Type{Bits: 8, Signed: true}
	u8t  = api.Type{Bits: 8}
	i16t = api.Type{Bits: 16, Signed: true}
	u16t = api.Type{Bits: 16}
	i32t = api.Type{Bits: 32, Signed: true}
	u32t = api.Type{Bits: 32}
	i64t = api.Type{Bits: 64, Signed: true}
	u64t = api.Type{Bits: 64}
)

var allTypes = []api.Type{i8t, u8t, i16t, u16t, i32t, u32t, i64t, u64t}

// read makes a program of a text that is one.
func read(t *testing.T, text string) api.Program {
	t.Helper()
	p, f := source.Read(text)
	if f.Err != api.OK {
		t.Fatalf("Read(%.300q): %v comes", text, f)
	}
	return p
}

// readExpr makes an expression of a text that is one.
func readExpr(t *testing.T, text string) api.Expr {
	t.Helper()
	return read(t, "i16 x = "+text+";").Globals[0].Init[0]
}

// told is an expression as a text.
func told(x api.Expr) string {
	text, err := source.Show(api.Program{Globals: []api.Global{{Type: i16t, Name: "x", Init: []api.Expr{x}}}})
	if err != api.OK {
		return fmt.Sprintf("%+v", x)
	}
	return strings.TrimSuffix(strings.TrimPrefix(text, "i16 x = "), ";\n")
}

// toldProgram is a program as a text.
func toldProgram(p api.Program) string {
	text, err := source.Show(p)
	if err != api.OK {
		return fmt.Sprintf("%+v", p)
	}
	return text
}

// bare is an expression without what its kind has not, and without lists that are empty.
func bare(x api.Expr) api.Expr {
	out := api.Expr{Kind: x.Kind}
	switch x.Kind {
	case api.CNum:
		out.N, out.Type = x.N, x.Type
	case api.CVar, api.CAt, api.CCall:
		out.Name = x.Name
	case api.CCast:
		out.Type = x.Type
	}
	for _, kid := range x.Kids {
		out.Kids = append(out.Kids, bare(kid))
	}
	return out
}

// same tells whether two expressions are the same, but for what their kinds have not.
func same(a, b api.Expr) bool { return reflect.DeepEqual(bare(a), bare(b)) }

// becomes holds what Expr makes of an expression against what it must be.
func becomes(t *testing.T, x, want api.Expr) {
	t.Helper()
	if got := Expr(x); !same(got, want) {
		t.Errorf("Expr of %s: %s comes, not %s", told(x), told(got), told(want))
	}
}

// Expressions.

func num(n uint64) api.Expr { return api.Expr{Kind: api.CNum, N: n, Type: i16t} }

func name(s string) api.Expr { return api.Expr{Kind: api.CVar, Name: s} }

func at(s string, x api.Expr) api.Expr {
	return api.Expr{Kind: api.CAt, Name: s, Kids: []api.Expr{x}}
}

func call(s string, l ...api.Expr) api.Expr { return api.Expr{Kind: api.CCall, Name: s, Kids: l} }

func cast(t api.Type, x api.Expr) api.Expr {
	return api.Expr{Kind: api.CCast, Type: t, Kids: []api.Expr{x}}
}

func one(kind int, x api.Expr) api.Expr { return api.Expr{Kind: kind, Kids: []api.Expr{x}} }

func two(kind int, a, b api.Expr) api.Expr { return api.Expr{Kind: kind, Kids: []api.Expr{a, b}} }

// Statements.

func none() api.Stat { return api.Stat{Kind: api.SNone} }

func expr(x api.Expr) api.Stat { return api.Stat{Kind: api.SExpr, X: x} }

func list(l ...api.Stat) []api.Stat { return l }

// mainOf is a function main of statements.
func mainOf(l ...api.Stat) api.Func { return api.Func{Name: "main", Body: l} }
