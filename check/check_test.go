package check

import (
	"fmt"
	"strings"
	"testing"

	"pairlegal/api"
	"pairlegal/source"
)

// I1

func TestProgramsThatAreRight(t *testing.T) {
	for _, text := range []string{
		"void main() { }",
		"i16 main() { put(65); return 7; }",
		"u64 main() { return 1; }",
		"i8 main() { }",
		"i16 x; void main() { x = x; }",
		"u8 a[3] = {1, 2}; i64 b = -1; void main() { a[b] = a[0]; }",
		"u8 a[3] = {}; void main() { }",
		"i16 f(i16 a) { return g(a); } i16 g(i16 b) { return f(b); } void main() { f(1); }",
		"void main() { main(); }",
		"i16 main() { i16 c = get(); while (c >= 0) { put(c); c = get(); } return 0; }",
		"void f(i16 x) { } i16 x; u8 y[2]; void g(u8 y) { y = x; } void main() { f(x); g(y[1]); }",
	} {
		right(t, text)
	}
}

// TestWhatWrongSays: with what stands in the program beside it, whatever that would be, and at 0, wherever it stands.
func TestWhatWrongSays(t *testing.T) {
	base := "i16 put; i16 put = 1 / 0; void put() { break; } void put(i16 a, i16 a) { x; }"
	spoiled := []func(p *api.Program){
		func(p *api.Program) { p.Funcs = append(p.Funcs, make([]api.Func, api.MaxFuncs)...) },
		func(p *api.Program) { p.Globals[0].Type = api.Type{} },
		func(p *api.Program) { p.Globals[1].Type = api.Type{Bits: 12} },
		func(p *api.Program) { p.Globals[1].Name = "if" },
		func(p *api.Program) { p.Globals[1].Size = -1 },
		func(p *api.Program) { p.Globals[1].Size = api.MaxGlobals + 1 },
		func(p *api.Program) { p.Globals[0].Init = []api.Expr{num(1), num(2)} },
		func(p *api.Program) { p.Globals[1].Init[0].Kids[0].Kind = 0 },
		func(p *api.Program) { p.Funcs[1].Name = "" },
		func(p *api.Program) { p.Funcs[1].Result = api.Type{Signed: true} },
		func(p *api.Program) { p.Funcs[0].Params = make([]api.Param, api.MaxParams+1) },
		func(p *api.Program) { p.Funcs[1].Params[1].Type = api.Type{} },
		func(p *api.Program) { p.Funcs[1].Params[1].Name = "9" },
		func(p *api.Program) { p.Funcs[1].Body[0].Kind = 12 },
		func(p *api.Program) { p.Funcs[1].Body[0].X.Name = "void" },
		func(p *api.Program) { p.Funcs[1].Body[0].X.Kids = []api.Expr{num(1)} },
		func(p *api.Program) { p.Funcs[1].Body[0].X = num(40000) },
		func(p *api.Program) {
			p.Funcs[1].Body[0] = api.Stat{Kind: api.SFor, Init: list(decl(i16t, "k"))}
		},
	}
	for i, spoil := range spoiled {
		p := read(t, base)
		spoil(&p)
		want := source.Wrong(p)
		if want == api.OK {
			t.Errorf("nothing is wrong with program %d", i)
		}
		answers(t, p, want, 0)
	}
	answers(t, read(t, base), api.ErrName, 0)
}

func TestNamesOfVariables(t *testing.T) {
	for _, size := range []string{"", "[3]"} {
		for _, taken := range []string{"put", "get"} {
			says(t, "i16 "+taken+size+"; void main() { }", api.ErrName, 0)
			says(t, "i16 x; u8 y[2]; u64 "+taken+size+"; i16 z; void main() { }", api.ErrName, 2)
		}
		says(t, "i16 x; i16 x"+size+"; void main() { }", api.ErrName, 1)
		says(t, "i16 x"+size+"; u8 y; u64 x; void main() { }", api.ErrName, 2)
		says(t, "i16 x"+size+"; u8 y; u64 z; i8 y; i8 x; void main() { }", api.ErrName, 3)
	}
	for _, free := range []string{"puts", "Put", "PUT", "pu", "ge", "_get", "gets", "Get", "x2", "X", "_"} {
		right(t, "i16 x; i16 "+free+"; void main() { }")
	}
	// Of one that comes only behind it, it is that one's fault.
	says(t, "i16 f; void f() { } void main() { }", api.ErrName, 1)
	says(t, "void f() { } i16 f; void main() { }", api.ErrName, 1)
	// Names of a function take none.
	right(t, "i16 a; i16 b; void f(i16 a) { i16 b; } void main() { i16 a; i16 b; }")
}

func TestNamesOfFunctions(t *testing.T) {
	for _, taken := range []string{"put", "get", "x", "a"} {
		says(t, "i16 x; u8 a[2]; void "+taken+"() { } void main() { }", api.ErrName, 2)
		says(t, "i16 x; u8 a[2]; void main() { } u8 g() { } i16 "+taken+"(i16 p) { } void h() { }", api.ErrName, 4)
	}
	says(t, "void main() { } void main() { }", api.ErrName, 1)
	says(t, "void f() { } void main() { } u8 f(i16 a) { }", api.ErrName, 2)
	says(t, "i16 x; void f() { } void main() { } u8 g() { } i8 main(i16 a) { } void f() { }", api.ErrName, 4)
	says(t, "i16 main; void main() { }", api.ErrName, 1)
	right(t, "i16 x; void f() { } void F() { } void f2() { } void X() { } void puts() { } void Get() { } void main() { }")
	// All names of functions come ahead of what is in them.
	says(t, "void f(i16 a, i16 a) { x; break; return 1; } void g() { } void get() { }", api.ErrName, 2)
	says(t, "i16 x; void main(i16 a, i16 a) { y; } void main() { }", api.ErrName, 2)
}

// TestMaxGlobals: with variables and arrays of each type, up to the bound, and one number beyond.
func TestMaxGlobals(t *testing.T) {
	for i, is := range typeNames {
		most := api.MaxGlobals / typeWords[i]
		right(t, fmt.Sprintf("%s a[%d]; void main() { }", is, most))
		right(t, fmt.Sprintf("%s x; %s a[%d]; void main() { }", is, is, most-1))
		right(t, fmt.Sprintf("%s a[%d]; %s b[1]; %s x; void main() { }", is, most-2, is, is))
		says(t, fmt.Sprintf("%s a[%d]; %s x; void main() { }", is, most, is), api.ErrMuch, 1)
		says(t, fmt.Sprintf("%s a[%d]; u8 x; void main() { }", is, most), api.ErrMuch, 1)
		says(t, fmt.Sprintf("%s x; %s a[%d]; void main() { }", is, is, most), api.ErrMuch, 1)
		says(t, fmt.Sprintf("%s x; %s a[%d]; %s b[1]; void main() { }", is, is, most-1, is), api.ErrMuch, 2)
		if most < api.MaxGlobals {
			says(t, fmt.Sprintf("%s a[%d]; void main() { }", is, most+1), api.ErrMuch, 0)
		}
		for _, size := range []int{0, 1} {
			p := api.Program{Funcs: []api.Func{mainOf()}}
			for k := range most {
				p.Globals = append(p.Globals, api.Global{Type: typeOfName(is), Name: fmt.Sprint("x", k), Size: size})
			}
			answers(t, p, api.OK, 0)
			p.Globals = append(p.Globals, api.Global{Type: u8t, Name: "one"})
			answers(t, p, api.ErrMuch, most)
		}
	}
	right(t, "i64 a[1000]; i32 b[1000]; u8 c[1000]; u64 d[200]; i16 e[100]; i32 f[49]; i16 x; u8 y; void main() { }")
	says(t, "i64 a[1000]; i32 b[1000]; u8 c[1000]; u64 d[200]; i16 e[100]; i32 f[49]; i16 x; u8 y; i8 z; void main() { }", api.ErrMuch, 8)
	says(t, "i64 a[1000]; i32 b[1000]; u8 c[1000]; u64 d[200]; i16 e[100]; i32 f[49]; i16 x; u32 y; void main() { }", api.ErrMuch, 7)
	// The first one that is too much is told, not the last one.
	says(t, "u8 a[8000]; u8 b[8000]; u8 c; void main() { }", api.ErrMuch, 1)
	// What functions declare is not counted with them.
	right(t, "u8 a[8000]; void f(u64 p) { u64 x; } void main() { i16 y; }")
}

func TestNumbersOfVariables(t *testing.T) {
	for _, c := range []struct {
		text string
		err  api.Errno
		at   int
	}{
		{"i16 x = 5;", api.OK, 0},
		{"i16 x = y;", api.ErrFit, 0},
		{"i16 y; i16 x = y;", api.ErrFit, 1},
		{"i16 x = x;", api.ErrFit, 0},
		{"i16 x = get();", api.ErrFit, 0},
		{"i16 x = nothing(1);", api.ErrFit, 0},
		{"u8 a[2] = {1, 2}; i16 x = a[0];", api.ErrFit, 1},
		{"i16 x = 1 / 0;", api.ErrZero, 0},
		{"i16 x = 1; i16 y = 5 % (3 - 3);", api.ErrZero, 1},
		{"u8 a[4] = {1, 2, 3, 4};", api.OK, 0},
		{"u8 a[4] = {y, 1 / 0};", api.ErrFit, 0},
		{"u8 a[4] = {1, 1 / 0, y};", api.ErrZero, 0},
		{"u8 a[4] = {1, 2, 3, 1 % 0};", api.ErrZero, 0},
		{"u8 a[4] = {1, 2, 3, y};", api.ErrFit, 0},
		{"u8 a[4] = {1, 2}; u8 b[1] = {0}; u8 c[3] = {1, 2 || y};", api.ErrFit, 2},
		{"i16 x = 99999999999; u8 y = -1; i8 a[2] = {70000u, ~0};", api.OK, 0},
	} {
		says(t, c.text+" void main() { }", c.err, c.at)
	}
}

// TestVariablesInOrder: one's faults, in order, come ahead of the next one's.
func TestVariablesInOrder(t *testing.T) {
	for _, c := range []struct {
		text string
		err  api.Errno
		at   int
	}{
		{"i64 put[2001] = {1 / 0};", api.ErrName, 0},
		{"i64 a[2001] = {1 / 0};", api.ErrMuch, 0},
		{"i64 a[2000] = {1 / 0};", api.ErrZero, 0},
		{"i64 a[2001]; i16 a;", api.ErrMuch, 0},
		{"i64 a[2001]; i16 get = y;", api.ErrMuch, 0},
		{"i64 a[2000] = {y}; i16 put;", api.ErrFit, 0},
		{"i16 a = y; i64 b[2001];", api.ErrFit, 0},
		{"i16 a; i64 a[2001] = {y};", api.ErrName, 1},
		{"i16 a; i64 b[2001] = {y};", api.ErrMuch, 1},
		{"i16 a; i64 b[1999] = {y};", api.ErrFit, 1},
		{"i16 a = 1 / 0; i16 b = y;", api.ErrZero, 0},
		{"i16 a = 1; i16 b = y; i16 c = 1 / 0;", api.ErrFit, 1},
	} {
		says(t, c.text+" void main() { }", c.err, c.at)
		says(t, c.text+" void put() { } void f(i16 p, i16 p) { x; } ", c.err, c.at)
	}
}

func TestParametersOfTheSameName(t *testing.T) {
	says(t, "void f(i16 a, i16 a) { } void main() { }", api.ErrName, 0)
	says(t, "void f(i16 a, u8 b, u64 a) { } void main() { }", api.ErrName, 0)
	says(t, "i16 x; void main() { } void f(i16 a, i16 b, i16 c, i16 d, i16 e, i16 f, i16 g, i16 g) { }", api.ErrName, 2)
	says(t, "i16 x; void main() { } void f(i16 a, i16 b, i16 c, i16 d, i16 e, i16 f, i16 g, i16 a) { }", api.ErrName, 2)
	right(t, "i16 x; void main() { } void f(i16 a, i16 b, i16 c, i16 d, i16 e, i16 f, i16 g, i16 h) { }")
	// A parameter's name may be one of all, a function's, its own function's, `put` or `get`.
	right(t, "i16 x; u8 y[3]; void f(i16 x, i16 y, i16 f, i16 g, i16 put, i16 get, i16 main) { x = y + f + g + put + get + main; } void g(i16 x) { } void main() { }")
	says(t, "i16 x; void f(i16 put, u8 put) { } void main() { }", api.ErrName, 1)
}

// frames has functions that declare as many numbers of a type, in each kind of place.
func frames(is string, count int) []string {
	some := func(from, to int, form string) string {
		var b strings.Builder
		for k := from; k < to; k++ {
			fmt.Fprintf(&b, form, is, k)
		}
		return b.String()
	}
	few, half := min(count, api.MaxParams), count/2
	return []string{
		"() { " + some(0, count, "%s x%d; ") + "}",
		"() { " + some(0, count, "%s x%d = 1; ") + "}",
		"() { " + some(0, count, "{ %s x%d; } ") + "}",
		"() { " + some(0, count, "if (1) %s x%d; ") + "}",
		"() { " + some(0, count, "if (1) ; else { %s x%d; } ") + "}",
		"() { " + some(0, count, "while (1) { %s x%d; } ") + "}",
		"() { " + some(0, count, "for (;;) { { %s x%d; break; } } ") + "}",
		"() { return; " + some(0, half, "%s x%d; ") + "while (0) { " + some(half, count, "%s x%d; ") + "} }",
		"(" + strings.TrimSuffix(some(0, few, "%s p%d, "), ", ") + ") { " + some(few, count, "%s x%d; ") + "}",
	}
}

func TestMaxFrame(t *testing.T) {
	for i, is := range typeNames {
		most := api.MaxFrame / typeWords[i]
		for _, count := range []int{0, 1, api.MaxParams, most - 1, most, most + 1, most + 20} {
			for _, text := range frames(is, count) {
				err, at := api.OK, 0
				if count > most {
					err, at = api.ErrMuch, 2
				}
				says(t, "i16 g; void main() { i16 x0; } void h"+text, err, at)
			}
		}
		// One word more is too much, whatever the others are; of all types with one word less all is well.
		full := strings.TrimSuffix(frames(is, most)[0], "}")
		says(t, "void h"+full+"u8 y; } void main() { }", api.ErrMuch, 0)
		says(t, "void h(i8 p)"+strings.TrimPrefix(full, "()")+"} void main() { }", api.ErrMuch, 0)
		right(t, "u64 g[2000]; void h"+full+"} void main() { }")
		right(t, "void h"+full+"g(1); } void g(i64 p) { u64 y; } void main() { h(); g(2); }")
	}
	says(t, "void f(u64 a, i32 b, u8 c) { "+strings.TrimPrefix(frames("i64", 48)[0], "() { ")+" void main() { }", api.OK, 0)
	says(t, "void f(u64 a, i32 b, u32 c) { "+strings.TrimPrefix(frames("i64", 48)[0], "() { ")+" void main() { }", api.OK, 0)
	says(t, "void f(u64 a, i32 b, u32 c, u8 d) { "+strings.TrimPrefix(frames("i64", 48)[0], "() { ")+" void main() { }", api.ErrMuch, 0)
}

// much is statements that declare too much.
func much() string { return strings.TrimPrefix(frames("i64", 51)[0], "() { ") }

// TestFunctionsInOrder: one's faults, in order, come ahead of the next one's, and all of these ahead of that of main.
func TestFunctionsInOrder(t *testing.T) {
	for _, c := range []struct {
		text string
		err  api.Errno
		at   int
	}{
		{"void f(i16 a, i16 a) { break; " + much(), api.ErrName, 1},
		{"void f(i16 a, i16 b) { break; " + much(), api.ErrFit, 1},
		{"void f(i16 a, i16 b) { " + strings.TrimSuffix(much(), "}") + "break; }", api.ErrFit, 1},
		{"void f(i16 a, i16 b) { " + much() + " void g(i16 a, i16 a) { }", api.ErrMuch, 1},
		{"void f(i16 a, i16 b) { " + much() + " void g() { break; }", api.ErrMuch, 1},
		{"void f() { break; } void g(i16 a, i16 a) { }", api.ErrFit, 1},
		{"void f() { x; } void g() { break; }", api.ErrName, 1},
		{"void f() { } void g(i16 a, i16 a) { break; } void h() { " + much(), api.ErrName, 2},
		{"void f() { } void g() { break; } void h() { " + much(), api.ErrFit, 2},
		{"void f() { } void g() { } void h() { " + much(), api.ErrMuch, 3},
		{"void f() { f(1); } void main(i16 a) { break; }", api.ErrMany, 1},
		{"void f() { } void main(i16 a) { break; }", api.ErrFit, 2},
		{"void f() { } void main(i16 a) { } u8 g() { }", api.ErrNone, 4},
	} {
		says(t, "i16 v; "+c.text, c.err, c.at)
	}
}

func TestProgramsWithoutMain(t *testing.T) {
	for _, c := range []struct {
		text string
		at   int
	}{
		{"", 0}, {"i16 x;", 1}, {"i16 main;", 1}, {"u8 main[2]; i16 y;", 2}, {"void f() { }", 1}, {"void f() { } u8 y[2]; i16 g() { return 1; }", 3},
		{"void main(i16 a) { }", 1}, {"i16 main(i16 a, i16 b) { }", 1}, {"i16 x; void f() { main(1); } i16 main(u8 a) { }", 3},
		{"void Main() { }", 1}, {"void main_() { }", 1}, {"void mai() { }", 1}, {"void f(i16 main) { i16 g; }", 1},
	} {
		says(t, c.text, api.ErrNone, c.at)
	}
	answers(t, api.Program{}, api.ErrNone, 0)
	for _, result := range append(typeNames, "void") {
		right(t, result+" main() { }")
		right(t, "i16 x; void f() { } "+result+" main() { } void g() { }")
		says(t, result+" main(i16 a) { }", api.ErrNone, 1)
	}
	many := api.Program{}
	for k := range api.MaxFuncs {
		many.Funcs = append(many.Funcs, api.Func{Name: fmt.Sprint("f", k)})
	}
	answers(t, many, api.ErrNone, api.MaxFuncs)
	many.Funcs[api.MaxFuncs-1].Name = "main"
	answers(t, many, api.OK, 0)
	many.Funcs[0].Name = "main"
	answers(t, many, api.ErrName, api.MaxFuncs-1)
}

// fault is one that may be put into wide, where it is told as err at at.
type fault struct {
	err api.Errno
	at  int
	put func(p *api.Program)
}

// wide is a program with which nothing is wrong, in which each fault of wideFaults has a place of its own.
const wide = `
	i16 g0 = 1;
	u8 g1[4] = {1, 2};
	i32 g2 = 3;
	i16 f0(i16 a, i16 b) { a; b; return 1; }
	void f1(u8 c, u8 d) { c; d; return; }
	void main() { ; ; }`

// wideFaults has them in the order in which they are told.
func wideFaults() []fault {
	zero := two(api.CDiv, num(1), num(0))
	large := func(f int) func(p *api.Program) {
		return func(p *api.Program) {
			for k := range api.MaxFrame + 1 {
				p.Funcs[f].Body = append(p.Funcs[f].Body, decl(u8t, fmt.Sprint("v", k)))
			}
		}
	}
	return []fault{
		{api.ErrKind, 0, func(p *api.Program) { p.Funcs[2].Body[0].Kind = 99 }},
		{api.ErrName, 0, func(p *api.Program) { p.Globals[0].Name = "get" }},
		{api.ErrMuch, 0, func(p *api.Program) { p.Globals[0].Size, p.Globals[0].Type = 2001, i64t }},
		{api.ErrFit, 0, func(p *api.Program) { p.Globals[0].Init[0] = name("g2") }},
		{api.ErrName, 1, func(p *api.Program) { p.Globals[1].Name = p.Globals[0].Name }},
		{api.ErrMuch, 1, func(p *api.Program) { p.Globals[1].Size = 8000 }},
		{api.ErrZero, 1, func(p *api.Program) { p.Globals[1].Init[0] = zero }},
		{api.ErrFit, 1, func(p *api.Program) { p.Globals[1].Init[1] = call("f1") }},
		{api.ErrName, 2, func(p *api.Program) { p.Globals[2].Name = "put" }},
		{api.ErrMuch, 2, func(p *api.Program) { p.Globals[2].Size = 3998 }},
		{api.ErrZero, 2, func(p *api.Program) { p.Globals[2].Init[0] = zero }},
		{api.ErrName, 3, func(p *api.Program) { p.Funcs[0].Name = p.Globals[2].Name }},
		{api.ErrName, 4, func(p *api.Program) { p.Funcs[1].Name = p.Funcs[0].Name }},
		{api.ErrName, 5, func(p *api.Program) { p.Funcs[2].Name = "get" }},
		{api.ErrName, 3, func(p *api.Program) { p.Funcs[0].Params[1].Name = "a" }},
		{api.ErrType, 3, func(p *api.Program) { p.Funcs[0].Body[0].X = cast(u8t, call("put", num(1))) }},
		{api.ErrMany, 3, func(p *api.Program) { p.Funcs[0].Body[1].X = call("get", num(1)) }},
		{api.ErrType, 3, func(p *api.Program) { p.Funcs[0].Body[2].Has = false }},
		{api.ErrMuch, 3, large(0)},
		{api.ErrName, 4, func(p *api.Program) { p.Funcs[1].Params[0].Name = "d" }},
		{api.ErrFit, 4, func(p *api.Program) { p.Funcs[1].Body[0] = api.Stat{Kind: api.SBreak} }},
		{api.ErrName, 4, func(p *api.Program) { p.Funcs[1].Body[1].X.Name = "nothing" }},
		{api.ErrType, 4, func(p *api.Program) { p.Funcs[1].Body[2].Has, p.Funcs[1].Body[2].X = true, num(1) }},
		{api.ErrMuch, 4, large(1)},
		{api.ErrFit, 5, func(p *api.Program) { p.Funcs[2].Body[1] = api.Stat{Kind: api.SContinue} }},
		{api.ErrMuch, 5, large(2)},
		{api.ErrNone, 6, func(p *api.Program) { p.Funcs[2].Params = []api.Param{{Type: i16t, Name: "m"}} }},
	}
}

// TestEachPairOfFaults: alone each one is told; of two the one that the chapter names first.
func TestEachPairOfFaults(t *testing.T) {
	right(t, wide)
	all := wideFaults()
	for i, a := range all {
		p := read(t, wide)
		a.put(&p)
		answers(t, p, a.err, a.at)
		for _, b := range all[i+1:] {
			for _, order := range [][]fault{{a, b}, {b, a}} {
				p := read(t, wide)
				order[0].put(&p)
				order[1].put(&p)
				answers(t, p, a.err, a.at)
			}
		}
	}
}
