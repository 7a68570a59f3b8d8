package check

import (
	"strings"
	"testing"

	"pairlegal/api"
)

// I3

// around is what stands beside the statement that is tried, in main, which is at 4.
const around = "i16 g; u8 a[3]; void f() { } i16 f1(i16 p) { return p; } "

func saysIn(t *testing.T, stats string, err api.Errno) {
	t.Helper()
	at := 0
	if err != api.OK {
		at = 4
	}
	says(t, around+"void main() { "+stats+" }", err, at)
}

// wrongs has expressions with an error of each kind that one may have, and one without.
var wrongs = []struct {
	text string
	err  api.Errno
}{
	{"1", api.OK}, {"g", api.OK}, {"f1(2)", api.OK}, {"a[g]", api.OK}, {"get()", api.OK},
	{"nothing", api.ErrName}, {"nothing()", api.ErrName}, {"nothing[1]", api.ErrName}, {"-nothing", api.ErrName},
	{"a", api.ErrType}, {"g[1]", api.ErrType}, {"put(f())", api.ErrType}, {"f() + 1", api.ErrType}, {"(u8)f()", api.ErrType}, {"f1(a)", api.ErrType},
	{"f1()", api.ErrMany}, {"f(1)", api.ErrMany}, {"get(1)", api.ErrMany}, {"put()", api.ErrMany},
}

// empty tells nothing, and is right where that may be.
const empty = "f()"

// TestXThatMustTell: of each statement each error of its X, and that X tells nothing.
func TestXThatMustTell(t *testing.T) {
	for _, form := range []string{
		"i16 x = @;", "u64 x = @;", "g = @;", "a[0] = @;", "a[@] = 1;", "if (@) ;", "if (@) { } else { }", "while (@) ;", "for (; @; ) ;",
		"for (g = @;;) ;", "for (a[@] = 1;;) ;", "for (;; g = @) ;", "for (;; a[@] = 2) ;", "{ { g = @; } }", "while (1) i16 x = @;", "if (1) g = @;", "if (1) ; else g = @;", "for (;;) if (@) ;",
	} {
		for _, w := range wrongs {
			saysIn(t, strings.Replace(form, "@", w.text, 1), w.err)
		}
		saysIn(t, strings.Replace(form, "@", empty, 1), api.ErrType)
		saysIn(t, strings.Replace(form, "@", "put(1)", 1), api.ErrType)
		saysIn(t, strings.Replace(form, "@", "main()", 1), api.ErrType)
	}
	for _, w := range wrongs {
		says(t, around+"void main() { } i16 h() { return "+w.text+"; }", w.err, atIf(w.err, 5))
	}
	says(t, around+"void main() { } i16 h() { return "+empty+"; }", api.ErrType, 5)
}

func atIf(err api.Errno, at int) int {
	if err == api.OK {
		return 0
	}
	return at
}

// TestXThatNeedNotTell: of an SExpr, wherever it stands.
func TestXThatNeedNotTell(t *testing.T) {
	for _, form := range []string{"@;", "{ @; }", "if (1) @;", "if (1) ; else @;", "while (1) @;", "for (;;) @;", "for (@;;) ;", "for (;; @) ;", "for (@; 1; @) @;"} {
		for _, w := range wrongs {
			saysIn(t, strings.ReplaceAll(form, "@", w.text), w.err)
		}
		for _, nothing := range []string{"f()", "put(1)", "main()"} {
			saysIn(t, strings.ReplaceAll(form, "@", nothing), api.OK)
		}
	}
}

// parts has statements with parts in which something may be wrong, in the order in which they are looked at: each @ with a number is one; @0 is the first one.
var parts = []string{
	"a[@0] = @1;",
	"if (@0) { g = @1; } else { g = @2; }",
	"if (@0) { g = @1; g = @2; } else { ; g = @3; g = @4; }",
	"while (@0) { g = @1; ; g = @2; }",
	"for (g = @0; @1; g = @2) { g = @3; g = @4; }",
	"for (a[@0] = @1; @2; a[@3] = @4) { a[@5] = @6; }",
	"{ g = @0; { g = @1; } g = @2; }",
	"i16 x = @0; u8 y = @1; g = @2; put(@3);",
	"while (@0) { if (@1) { for (; @2; g = @3) { { i16 z = @4; } g = @5; } } else { g = @6; } a[@7] = @8; } g = @9;",
	"g = @0; i16 x = @1; g = @2; return; g = @3; while (0) { g = @4; } put(@5);",
}

// told3 has errors that are told apart.
var told3 = []struct {
	text string
	err  api.Errno
}{{"nothing", api.ErrName}, {"f()", api.ErrType}, {"get(1)", api.ErrMany}}

// TestPartsInOrder: of two parts that are wrong the first one is told.
func TestPartsInOrder(t *testing.T) {
	for _, form := range parts {
		n := strings.Count(form, "@")
		lay := func(wrong map[int]string) string {
			text := form
			for k := range n {
				x := wrong[k]
				if x == "" {
					x = "1"
				}
				text = strings.Replace(text, "@"+string(rune('0'+k)), x, 1)
			}
			return text
		}
		saysIn(t, lay(nil), api.OK)
		for i := range n {
			for _, a := range told3 {
				saysIn(t, lay(map[int]string{i: a.text}), a.err)
				for j := i + 1; j < n; j++ {
					for _, b := range told3 {
						saysIn(t, lay(map[int]string{i: a.text, j: b.text}), a.err)
					}
				}
			}
		}
	}
}

func TestSets(t *testing.T) {
	for _, c := range []struct {
		text string
		err  api.Errno
	}{
		{"g = 1;", api.OK}, {"a[0] = 1;", api.OK}, {"a[99] = 1;", api.OK}, {"a[-1] = g;", api.OK}, {"i16 x; x = 1;", api.OK},
		{"x = 1;", api.ErrName}, {"x[0] = 1;", api.ErrName}, {"f = 1;", api.ErrName}, {"f[0] = 1;", api.ErrName}, {"p = 1;", api.ErrName}, {"G = 1;", api.ErrName},
		{"a = 1;", api.ErrType}, {"g[0] = 1;", api.ErrType}, {"i16 x; x[0] = 1;", api.ErrType}, {"i16 a; a[0] = 1;", api.ErrType}, {"i16 a; a = 1;", api.OK}, {"{ i16 a; } a[0] = 1;", api.OK},
		// I comes ahead of the name, and of whether it is an array; these come ahead of X.
		{"x[f()] = 1;", api.ErrType}, {"x[get(1)] = 1;", api.ErrMany}, {"x[y] = get(1);", api.ErrName}, {"g[nothing] = 1;", api.ErrName}, {"g[get(1)] = 1;", api.ErrMany}, {"g[f()] = get(1);", api.ErrType},
		{"x = get(1);", api.ErrName}, {"x = f();", api.ErrName}, {"x[0] = f();", api.ErrName}, {"x[0] = get(1);", api.ErrName}, {"a = nothing;", api.ErrType}, {"a = get(1);", api.ErrType}, {"g[0] = nothing;", api.ErrType}, {"g[0] = get(1);", api.ErrType},
		{"a[0] = x;", api.ErrName}, {"a[x] = f();", api.ErrName}, {"a[f()] = x;", api.ErrType}, {"a[get(1)] = x;", api.ErrMany}, {"g = f();", api.ErrType}, {"g = a;", api.ErrType},
	} {
		saysIn(t, c.text, c.err)
		saysIn(t, "while (1) { if (1) ; else { "+c.text+" } }", c.err)
	}
	// Without Has there is no I, whatever stands there.
	answers(t, api.Program{Globals: []api.Global{{Type: i16t, Name: "g"}}, Funcs: []api.Func{mainOf(api.Stat{Kind: api.SSet, Name: "g", X: num(1), I: name("nothing")})}}, api.OK, 0)
}

func TestReturns(t *testing.T) {
	nested := []string{"@", "{ @ }", "if (1) @", "if (1) ; else { @ }", "while (1) { @ }", "for (;;) @", "; { { ; @ ; } }"}
	for _, form := range nested {
		with := func(result, stat string) string {
			return "i16 g; u8 a[2]; void v() { } " + result + " h(i16 p) { " + strings.Replace(form, "@", stat, 1) + " } void main() { }"
		}
		for _, result := range typeNames {
			right(t, with(result, "return 1;"))
			right(t, with(result, "return p;"))
			right(t, with(result, "return a[g] + 99999999999u;"))
			right(t, with(result, ";"))
			says(t, with(result, "return;"), api.ErrType, 3)
			says(t, with(result, "return v();"), api.ErrType, 3)
			says(t, with(result, "return x;"), api.ErrName, 3)
			says(t, with(result, "return get(1);"), api.ErrMany, 3)
		}
		right(t, with("void", "return;"))
		right(t, with("void", ";"))
		says(t, with("void", "return 1;"), api.ErrType, 3)
		// That comes ahead of X.
		says(t, with("void", "return x;"), api.ErrType, 3)
		says(t, with("void", "return get(1);"), api.ErrType, 3)
		says(t, with("void", "return v();"), api.ErrType, 3)
	}
	// Each function has its own result, whatever those beside it have.
	says(t, "i16 f() { return 1; } void main() { return 1; }", api.ErrType, 1)
	says(t, "void main() { return; } i16 f() { return; }", api.ErrType, 1)
	right(t, "void main() { return; } i16 f() { return 1; } void g() { return; } u64 h() { return 1; }")
	// Without Has there is no X, whatever stands there.
	answers(t, api.Program{Funcs: []api.Func{mainOf(api.Stat{Kind: api.SReturn, X: name("nothing")})}}, api.OK, 0)
}

func TestBreakAndContinue(t *testing.T) {
	for _, word := range []string{"break;", "continue;"} {
		for _, c := range []struct {
			form string
			err  api.Errno
		}{
			{"@", api.ErrFit}, {"{ @ }", api.ErrFit}, {"if (1) @", api.ErrFit}, {"if (1) ; else @", api.ErrFit}, {"{ if (1) { { @ } } }", api.ErrFit},
			{"while (1) @", api.OK}, {"while (1) { @ }", api.OK}, {"for (;;) @", api.OK}, {"for (;;) { @ }", api.OK}, {"for (g = 1; g; g = 2) { ; @ }", api.OK},
			{"while (1) { if (1) @ }", api.OK}, {"while (1) { if (1) ; else { @ } }", api.OK}, {"for (;;) { { { @ } } }", api.OK}, {"for (;;) if (1) if (2) @", api.OK},
			{"while (1) { } @", api.ErrFit}, {"while (1) ; @", api.ErrFit}, {"for (;;) { } @", api.ErrFit}, {"for (;;) ; @", api.ErrFit}, {"@ while (1) ;", api.ErrFit}, {"@ for (;;) ;", api.ErrFit},
			{"while (1) { break; } @", api.ErrFit}, {"for (;;) { continue; } @", api.ErrFit}, {"{ while (1) break; @ }", api.ErrFit}, {"if (1) while (1) continue; else @", api.ErrFit},
			{"while (1) { while (2) { } @ }", api.OK}, {"while (1) { for (;;) { } @ }", api.OK}, {"for (;;) { while (2) ; @ }", api.OK}, {"for (;;) { for (;;) break; @ }", api.OK},
			{"while (1) { while (2) { @ } } g = 1;", api.OK}, {"while (1) { for (;;) { while (1) ; } } @", api.ErrFit}, {"while (1) { for (;;) { @ } @ } for (;;) @", api.OK}, {"while (1) { for (;;) { @ } @ } for (;;) @ @", api.ErrFit},
			{"@ nothing;", api.ErrFit}, {"nothing; @", api.ErrName}, {"while (1) { @ nothing; }", api.ErrName},
		} {
			text := strings.ReplaceAll(c.form, "@", word)
			saysIn(t, text, c.err)
			// Nor does a loop of a function that calls, or stands ahead, count.
			says(t, around+"void h() { while (1) { main(); break; } } void main() { "+text+" }", c.err, atIf(c.err, 5))
		}
	}
	// A wrong one within a loop of one function leaves no loop open for the next one.
	says(t, "void main() { while (1) { for (;;) { return; } } } void f() { break; }", api.ErrFit, 1)
}

// TestStatementsThatSayNothing: an SNone is right, whatever stands in its fields; so are those that a kind has not.
func TestStatementsThatSayNothing(t *testing.T) {
	no := list(api.Stat{Kind: api.SBreak}, decl(i16t, "x"), decl(i16t, "x"))
	bad := name("nothing")
	full := api.Stat{Type: i16t, Name: "nothing", X: bad, I: bad, Init: no, Step: no, Body: no, Else: no}
	with := func(kind int, has bool, change func(s *api.Stat)) api.Stat {
		s := full
		s.Kind, s.Has = kind, has
		change(&s)
		return s
	}
	asIs := func(s *api.Stat) {}
	for _, has := range []bool{false, true} {
		for _, s := range []api.Stat{
			with(api.SNone, has, asIs),
			with(api.SExpr, has, func(s *api.Stat) { s.X = num(1) }),
			with(api.SIf, has, func(s *api.Stat) { s.X, s.Body, s.Else = num(1), nil, nil }),
			with(api.SWhile, has, func(s *api.Stat) { s.X, s.Body = num(1), nil }),
			with(api.SBlock, has, func(s *api.Stat) { s.Body = nil }),
			with(api.SDecl, has, func(s *api.Stat) { s.X = num(1) }),
			with(api.SReturn, false, asIs),
			with(api.SFor, false, func(s *api.Stat) { s.Init, s.Step, s.Body = nil, nil, nil }),
		} {
			answers(t, api.Program{Funcs: []api.Func{mainOf(s)}}, api.OK, 0)
		}
		for _, kind := range []int{api.SBreak, api.SContinue} {
			s := with(kind, has, asIs)
			answers(t, api.Program{Funcs: []api.Func{mainOf(s)}}, api.ErrFit, 0)
			answers(t, api.Program{Funcs: []api.Func{mainOf(api.Stat{Kind: api.SWhile, X: num(1), Body: list(s)})}}, api.OK, 0)
		}
	}
}
