package eval

import (
	"fmt"
	"reflect"
	"strings"
	"testing"

	"pairlegal/api"
	"pairlegal/source"
)

// Types, by hand.
var (
	i8t  = api.Type{Bits: 8, Signed: true}
	u8t  = api.Type{Bits: 8}
	i16t = api.Type{Bits: 16, Signed: true}
	u16t = api.Type{Bits: 16}
	i32t = api.Type{Bits: 32, Signed: true}
	u32t = api.Type{Bits: 32}
	i64t = api.Type{Bits: 64, Signed: true}
	u64t = api.Type{Bits: 64}
)

var allTypes = []api.Type{i8t, u8t, i16t, u16t, i32t, u32t, i64t, u64t}

// enough is a limit that most programs of these tests don't come to.
const enough = 20000

// read makes a program of a text that is one.
func read(t *testing.T, text string) api.Program {
	t.Helper()
	p, f := source.Read(text)
	if f.Err != api.OK {
		t.Fatalf("Read(%.300q): %v comes", text, f)
	}
	return p
}

// shown is a program as a test may tell it.
func shown(p api.Program) string {
	if text, err := source.Show(p); err == api.OK {
		return text
	}
	return fmt.Sprintf("a program of %d nodes\n", source.Nodes(p))
}

// plain has nil where there is an empty list.
func plain(r api.Told) api.Told {
	if len(r.Output) == 0 {
		r.Output = nil
	}
	return r
}

// brief is what came, without the most of what was told, if that is much.
func brief(r api.Told) string { return fmt.Sprintf("%.200s", fmt.Sprintf("%+v", r)) }

// runs holds what comes of a program against what must come.
func runs(t *testing.T, p api.Program, input string, limit int, want api.Told) {
	t.Helper()
	got, f := Run(p, []byte(input), limit)
	if f != (api.Fault{}) || !reflect.DeepEqual(plain(got), plain(want)) {
		t.Errorf("%s, %v comes, not %s, of %.100q, %d, and\n%.2000s", brief(got), f, brief(want), input, limit, shown(p))
	}
}

// halts: a text that comes to its end.
func halts(t *testing.T, text, input string, want api.Told) {
	t.Helper()
	want.How = api.RanHalt
	runs(t, read(t, text), input, enough, want)
}

// traps: a text that ends with a trap.
func traps(t *testing.T, text, input string, want api.Told) {
	t.Helper()
	want.How = api.RanTrap
	runs(t, read(t, text), input, enough, want)
}

// tells: what a text tells, takes in and answers; how many ticks it takes is not asked.
func tells(t *testing.T, text, input, output string, taken int, result uint64) {
	t.Helper()
	got, f := Run(read(t, text), []byte(input), enough)
	want := api.Told{How: api.RanHalt, Output: []byte(output), Read: taken, Ticks: got.Ticks, Result: result}
	if f != (api.Fault{}) || !reflect.DeepEqual(plain(got), plain(want)) {
		t.Errorf("%+v, %v comes, not %+v, of %q and\n%s", got, f, want, input, text)
	}
}

// trapsTelling: which trap a text ends with, and what it told until then.
func trapsTelling(t *testing.T, text, output string, trap int) {
	t.Helper()
	got, f := Run(read(t, text), nil, enough)
	want := api.Told{How: api.RanTrap, Trap: trap, Output: []byte(output), Ticks: got.Ticks}
	if f != (api.Fault{}) || !reflect.DeepEqual(plain(got), plain(want)) {
		t.Errorf("%+v, %v comes, not %+v, of\n%s", got, f, want, text)
	}
}

// many is a text that stands there often.
func many(text string, n int) string { return strings.Repeat(text, n) }

// Expressions.

// num is a number as it is written, with a sign where that may be.
func num(n uint64) api.Expr {
	for _, signed := range []bool{true, false} {
		if x, ok := literal(n, signed); ok {
			return x
		}
	}
	panic("no number")
}

func name(s string) api.Expr { return api.Expr{Kind: api.CVar, Name: s} }

func at(s string, x api.Expr) api.Expr {
	return api.Expr{Kind: api.CAt, Name: s, Kids: []api.Expr{x}}
}

func call(s string, l ...api.Expr) api.Expr { return api.Expr{Kind: api.CCall, Name: s, Kids: l} }

func cast(t api.Type, x api.Expr) api.Expr {
	return api.Expr{Kind: api.CCast, Type: t, Kids: []api.Expr{x}}
}

func one(kind int, x api.Expr) api.Expr { return api.Expr{Kind: kind, Kids: []api.Expr{x}} }

func two(kind int, a, b api.Expr) api.Expr { return api.Expr{Kind: kind, Kids: []api.Expr{a, b}} }

// Statements.

func none() api.Stat { return api.Stat{Kind: api.SNone} }

func expr(x api.Expr) api.Stat { return api.Stat{Kind: api.SExpr, X: x} }

func put(x api.Expr) api.Stat { return expr(call("put", x)) }

func returning(x api.Expr) api.Stat { return api.Stat{Kind: api.SReturn, Has: true, X: x} }

func list(l ...api.Stat) []api.Stat { return l }

// mainOf is a function main of statements.
func mainOf(l ...api.Stat) api.Func { return api.Func{Name: "main", Body: l} }

// answering is a program whose main tells an expression, as a number of 64 bits, with variables of all.
func answering(x api.Expr, globals ...api.Global) api.Program {
	return api.Program{Globals: globals, Funcs: []api.Func{{Name: "main", Result: u64t, Body: list(returning(x))}}}
}
