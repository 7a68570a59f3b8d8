package source

import (
	"strings"
	"testing"

	"pairlegal/api"
)

func reads(t *testing.T, text string, want api.Program) {
	t.Helper()
	if got, f := Read(text); !same(got, want) || f != (api.Fault{}) {
		t.Errorf("Read(%q): %+v, %v comes, not %+v", short(text), got, f, want)
	}
}

// readsIn is for statements of a function.
func readsIn(t *testing.T, text string, want ...api.Stat) {
	t.Helper()
	reads(t, "void f() { "+text+" }", body(want...))
}

// readsAs is for an expression.
func readsAs(t *testing.T, text string, want api.Expr) {
	t.Helper()
	reads(t, "i16 x="+text+";", globals(api.Global{Type: i16t, Name: "x", Init: []api.Expr{want}}))
	readsIn(t, text+";", expr(want))
}

// H3

func TestReadNothing(t *testing.T) {
	for _, text := range []string{"", " ", "\n\n", "// i16 x;", "\t// a\n // b\n"} {
		reads(t, text, api.Program{})
	}
}

func TestReadVariables(t *testing.T) {
	reads(t, "i16 x;", globals(api.Global{Type: i16t, Name: "x"}))
	reads(t, "i16 x = 1;", globals(api.Global{Type: i16t, Name: "x", Init: []api.Expr{num(1)}}))
	reads(t, "i16 x = 1 + y;", globals(api.Global{Type: i16t, Name: "x", Init: []api.Expr{two(api.CAdd, num(1), name("y"))}}))
	reads(t, "u8 a[3];", globals(api.Global{Type: u8t, Name: "a", Size: 3}))
	reads(t, "u8 a[3u];", globals(api.Global{Type: u8t, Name: "a", Size: 3}))
	reads(t, "u8 a[003];", globals(api.Global{Type: u8t, Name: "a", Size: 3}))
	reads(t, "u8 a[3] = {};", globals(api.Global{Type: u8t, Name: "a", Size: 3}))
	reads(t, "u8 a[3] = {1};", globals(api.Global{Type: u8t, Name: "a", Size: 3, Init: []api.Expr{num(1)}}))
	reads(t, "u8 a[3] = {1, -2};", globals(api.Global{Type: u8t, Name: "a", Size: 3, Init: []api.Expr{num(1), one(api.CNeg, num(2))}}))
	reads(t, "u8 a[3]={1,2,3};", globals(api.Global{Type: u8t, Name: "a", Size: 3, Init: []api.Expr{num(1), num(2), num(3)}}))
	reads(t, "u8 a[1] = {1};", globals(api.Global{Type: u8t, Name: "a", Size: 1, Init: []api.Expr{num(1)}}))
	reads(t, "u8 a[1] = {};", globals(api.Global{Type: u8t, Name: "a", Size: 1}))
	reads(t, "u8 a[7999]; u8 b[8000]; u8 c[1];", globals(api.Global{Type: u8t, Name: "a", Size: 7999}, api.Global{Type: u8t, Name: "b", Size: 8000}, api.Global{Type: u8t, Name: "c", Size: 1}))
	reads(t, "i16 x;i16 x;", globals(api.Global{Type: i16t, Name: "x"}, api.Global{Type: i16t, Name: "x"}))
	for word, is := range typeWords() {
		reads(t, word+" x;", globals(api.Global{Type: is, Name: "x"}))
	}
	long := strings.Repeat("x", api.MaxName)
	reads(t, "i16 "+long+";", globals(api.Global{Type: i16t, Name: long}))
}

func TestReadFunctions(t *testing.T) {
	reads(t, "void f() { }", body())
	reads(t, "void f(){}", body())
	for word, is := range typeWords() {
		reads(t, word+" g() { ; }", funcs(api.Func{Name: "g", Result: is, Body: list(none())}))
		reads(t, "void g("+word+" p) { }", funcs(api.Func{Name: "g", Params: []api.Param{{Type: is, Name: "p"}}}))
	}
	reads(t, "void f(i16 a, u8 b) { ; }", funcs(api.Func{Name: "f", Params: []api.Param{{Type: i16t, Name: "a"}, {Type: u8t, Name: "b"}}, Body: list(none())}))
	var most []api.Param
	for range api.MaxParams {
		most = append(most, api.Param{Type: u32t, Name: "a"})
	}
	reads(t, "i8 f(u32 a"+strings.Repeat(",u32 a", api.MaxParams-1)+") { }", funcs(api.Func{Name: "f", Result: i8t, Params: most}))
}

// Variables and functions may stand among each other; each go into a list of their own.
func TestReadBoth(t *testing.T) {
	reads(t, "i16 x; void f() { } u8 y[2]; i8 g() { return 1; } // end", api.Program{
		Globals: []api.Global{{Type: i16t, Name: "x"}, {Type: u8t, Name: "y", Size: 2}},
		Funcs:   []api.Func{{Name: "f"}, {Name: "g", Result: i8t, Body: list(retOf(num(1)))}},
	})
}

func TestReadStatements(t *testing.T) {
	x := name("x")
	readsIn(t, "")
	readsIn(t, ";", none())
	readsIn(t, ";;", none(), none())
	readsIn(t, "{}", block())
	readsIn(t, "{ ; }", block(none()))
	readsIn(t, "{ { } ; } { }", block(block(), none()), block())
	readsIn(t, "return;", ret())
	readsIn(t, "return 1;", retOf(num(1)))
	readsIn(t, "return (x);", retOf(x))
	readsIn(t, "return -x;", retOf(one(api.CNeg, x)))
	readsIn(t, "break;", api.Stat{Kind: api.SBreak})
	readsIn(t, "continue;", api.Stat{Kind: api.SContinue})
	readsIn(t, "x;", expr(x))
	readsIn(t, "f(1);", expr(call("f", num(1))))
	readsIn(t, "1 + 2;", expr(two(api.CAdd, num(1), num(2))))
	readsIn(t, "x == 1;", expr(two(api.CEq, x, num(1))))
	for word, is := range typeWords() {
		readsIn(t, word+" x;", decl(is, "x"))
		readsIn(t, word+" x = 1;", declAs(is, "x", num(1)))
	}
	readsIn(t, "i16 x = y == 1;", declAs(i16t, "x", two(api.CEq, name("y"), num(1))))
}

func TestReadSets(t *testing.T) {
	readsIn(t, "x = 1;", set("x", num(1)))
	readsIn(t, "x=y;", set("x", name("y")))
	readsIn(t, "a[0] = 1;", setAt("a", num(0), num(1)))
	readsIn(t, "a[1 + 2] = a[b[3]];", setAt("a", two(api.CAdd, num(1), num(2)), at("a", at("b", num(3)))))
	readsIn(t, "x = y == z;", set("x", two(api.CEq, name("y"), name("z"))))
	// Brackets make nothing, here neither.
	readsIn(t, "(x) = 1;", set("x", num(1)))
	readsIn(t, "((a[(2)])) = (1);", setAt("a", num(2), num(1)))
}

func TestReadIf(t *testing.T) {
	x, y := name("x"), name("y")
	readsIn(t, "if (x) ;", ifs(x, list(none()), nil))
	readsIn(t, "if (x) y;", ifs(x, list(expr(y)), nil))
	readsIn(t, "if (x) { }", ifs(x, nil, nil))
	readsIn(t, "if (x) { y; ; }", ifs(x, list(expr(y), none()), nil))
	readsIn(t, "if (x) { { y; } }", ifs(x, list(block(expr(y))), nil))
	readsIn(t, "if (x) { { } }", ifs(x, list(block()), nil))
	readsIn(t, "if (x) ; else ;", ifs(x, list(none()), list(none())))
	readsIn(t, "if (x) { } else { }", ifs(x, nil, nil))
	readsIn(t, "if (x) { } else y;", ifs(x, nil, list(expr(y))))
	readsIn(t, "if (x) y; else { y; ; }", ifs(x, list(expr(y)), list(expr(y), none())))
	readsIn(t, "if (x) { y; } else { { } }", ifs(x, list(expr(y)), list(block())))
	readsIn(t, "if (x) if (y) ; else ;", ifs(x, list(ifs(y, list(none()), list(none()))), nil))
	readsIn(t, "if (x) if (y) ; else ; else break;", ifs(x, list(ifs(y, list(none()), list(none()))), list(api.Stat{Kind: api.SBreak})))
	readsIn(t, "if (x) { if (y) ; } else ;", ifs(x, list(ifs(y, list(none()), nil)), list(none())))
	readsIn(t, "if (x) while (y) if (1) ; else ;", ifs(x, list(while(y, ifs(num(1), list(none()), list(none())))), nil))
	readsIn(t, "if (x) { } else if (y) { ; } else return;", ifs(x, nil, list(ifs(y, list(none()), list(ret())))))
	readsIn(t, "if (x) ; ; ", ifs(x, list(none()), nil), none())
	readsIn(t, "if (x) i16 z = 1;", ifs(x, list(declAs(i16t, "z", num(1))), nil))
	readsIn(t, "if (x) x = 1; else a[0] = 2;", ifs(x, list(set("x", num(1))), list(setAt("a", num(0), num(2)))))
}

func TestReadWhile(t *testing.T) {
	x := name("x")
	readsIn(t, "while (x) ;", while(x, none()))
	readsIn(t, "while (x) { }", while(x))
	readsIn(t, "while (x) { ; break; }", while(x, none(), api.Stat{Kind: api.SBreak}))
	readsIn(t, "while (x) continue;", while(x, api.Stat{Kind: api.SContinue}))
	readsIn(t, "while ((x)) while (1) x;", while(x, while(num(1), expr(x))))
	readsIn(t, "while (x) { { ; } }", while(x, block(none())))
}

func TestReadFor(t *testing.T) {
	x := name("x")
	start, test, step := set("x", num(0)), two(api.CLt, x, num(5)), set("x", two(api.CAdd, x, num(1)))
	readsIn(t, "for (x = 0; x < 5; x = x + 1) { }", api.Stat{Kind: api.SFor, Init: list(start), Has: true, X: test, Step: list(step)})
	readsIn(t, "for (x = 0; x < 5; ) { }", api.Stat{Kind: api.SFor, Init: list(start), Has: true, X: test})
	readsIn(t, "for (x = 0; ; x = x + 1) { }", api.Stat{Kind: api.SFor, Init: list(start), Step: list(step)})
	readsIn(t, "for (; x < 5; x = x + 1) { }", api.Stat{Kind: api.SFor, Has: true, X: test, Step: list(step)})
	readsIn(t, "for (x = 0; ; ) { }", api.Stat{Kind: api.SFor, Init: list(start)})
	readsIn(t, "for (; x < 5; ) { }", api.Stat{Kind: api.SFor, Has: true, X: test})
	readsIn(t, "for (; ; x = x + 1) { }", api.Stat{Kind: api.SFor, Step: list(step)})
	readsIn(t, "for (;;) { }", api.Stat{Kind: api.SFor})
	readsIn(t, "for (;;) ;", api.Stat{Kind: api.SFor, Body: list(none())})
	readsIn(t, "for (;;) { ; x; }", api.Stat{Kind: api.SFor, Body: list(none(), expr(x))})
	readsIn(t, "for (;;) { { } }", api.Stat{Kind: api.SFor, Body: list(block())})
	readsIn(t, "for (f(); 1; x) for (;;) break;", api.Stat{Kind: api.SFor, Init: list(expr(call("f"))), Has: true, X: num(1), Step: list(expr(x)), Body: list(api.Stat{Kind: api.SFor, Body: list(api.Stat{Kind: api.SBreak})})})
	readsIn(t, "for (a[1] = 2; ; (x) = 3) { }", api.Stat{Kind: api.SFor, Init: list(setAt("a", num(1), num(2))), Step: list(set("x", num(3)))})
}

// H4

// weights has the signs of two kids by the document's words, from the weakest ones on.
var weights = []string{"||", "&&", "|", "^", "&", "== !=", "< <= > >=", "<< >>", "+ -", "* / %"}

var signKinds = map[string]int{
	"||": api.CLor, "&&": api.CLand, "|": api.COr, "^": api.CXor, "&": api.CAnd, "==": api.CEq, "!=": api.CNe, "<": api.CLt, "<=": api.CLe, ">": api.CGt, ">=": api.CGe,
	"<<": api.CShl, ">>": api.CShr, "+": api.CAdd, "-": api.CSub, "*": api.CMul, "/": api.CDiv, "%": api.CRem,
}

func twoSigns() []string { return strings.Fields(strings.Join(weights, " ")) }

func weight(sign string) int {
	for w, l := range weights {
		for _, s := range strings.Fields(l) {
			if s == sign {
				return w
			}
		}
	}
	return -1
}

// split makes of signs between kids what they are, in another way than reading from the left: the last one of the weakest ones is done last.
func split(kids []api.Expr, signs []string) api.Expr {
	if len(signs) == 0 {
		return kids[0]
	}
	last := 0
	for i, s := range signs {
		if weight(s) <= weight(signs[last]) {
			last = i
		}
	}
	return two(signKinds[signs[last]], split(kids[:last+1], signs[:last]), split(kids[last+1:], signs[last+1:]))
}

func TestEachSignOfTwo(t *testing.T) {
	if len(twoSigns()) != 18 || len(signKinds) != 18 {
		t.Fatal("signs are missing")
	}
	for _, s := range twoSigns() {
		readsAs(t, "1 "+s+" x", two(signKinds[s], num(1), name("x")))
		readsAs(t, "1"+s+"x", two(signKinds[s], num(1), name("x")))
	}
}

func TestWeights(t *testing.T) {
	a, b, c := name("a"), name("b"), name("c")
	for _, s := range twoSigns() {
		for _, u := range twoSigns() {
			want := two(signKinds[u], two(signKinds[s], a, b), c)
			if weight(s) < weight(u) {
				want = two(signKinds[s], a, two(signKinds[u], b, c))
			}
			readsAs(t, "a "+s+" b "+u+" c", want)
			readsAs(t, "(a "+s+" b) "+u+" c", two(signKinds[u], two(signKinds[s], a, b), c))
			readsAs(t, "a "+s+" (b "+u+" c)", two(signKinds[s], a, two(signKinds[u], b, c)))
			for _, v := range twoSigns() {
				kids := []api.Expr{a, b, c, num(4)}
				if got, want := readExpr(t, "a "+s+" b "+u+" c "+v+" 4"), split(kids, []string{s, u, v}); !same(got, want) {
					t.Fatalf("a %s b %s c %s 4: %+v comes, not %+v", s, u, v, got, want)
				}
			}
		}
	}
}

// readExpr reads a text that must be an expression.
func readExpr(t *testing.T, text string) api.Expr {
	t.Helper()
	p, f := Read("i16 x = " + text + ";")
	if f != (api.Fault{}) || len(p.Globals) != 1 || len(p.Globals[0].Init) != 1 {
		t.Fatalf("Read of %q: %+v, %v comes", short(text), p, f)
	}
	return p.Globals[0].Init[0]
}

// TestManySigns has long rows of all signs, each of them many times.
func TestManySigns(t *testing.T) {
	all := twoSigns()
	for step := 1; step < 18; step++ {
		var text strings.Builder
		text.WriteString("0")
		kids, signs := []api.Expr{num(0)}, []string(nil)
		for i := range 60 {
			s := all[(i*step+i/7)%18]
			text.WriteString(s + strings.Repeat(" ", i%2) + string(rune('a'+i%26)))
			kids, signs = append(kids, name(string(rune('a'+i%26)))), append(signs, s)
		}
		if got, want := readExpr(t, text.String()), split(kids, signs); !same(got, want) {
			t.Errorf("%s: %+v comes, not %+v", text.String(), got, want)
		}
	}
}

func TestSignsAhead(t *testing.T) {
	x := name("x")
	for s, kind := range map[string]int{"-": api.CNeg, "~": api.CNot, "!": api.CLog} {
		readsAs(t, s+"x", one(kind, x))
		readsAs(t, s+" "+s+"x", one(kind, one(kind, x)))
		readsAs(t, s+s+s+"1u", one(kind, one(kind, one(kind, unum(1)))))
		readsAs(t, s+"(x)", one(kind, x))
		readsAs(t, s+"a[1]", one(kind, at("a", num(1))))
		readsAs(t, s+"f()", one(kind, call("f")))
		readsAs(t, s+"(u8)x", one(kind, cast(u8t, x)))
		readsAs(t, "(u8)"+s+"x", cast(u8t, one(kind, x)))
		for _, b := range twoSigns() {
			readsAs(t, s+"x "+b+" 1", two(signKinds[b], one(kind, x), num(1)))
			readsAs(t, "1 "+b+" "+s+"x", two(signKinds[b], num(1), one(kind, x)))
			readsAs(t, s+"(x "+b+" 1)", one(kind, two(signKinds[b], x, num(1))))
			readsAs(t, s+"x "+b+" "+s+"x "+b+" "+s+"x", two(signKinds[b], two(signKinds[b], one(kind, x), one(kind, x)), one(kind, x)))
		}
	}
	readsAs(t, "-~!x", one(api.CNeg, one(api.CNot, one(api.CLog, x))))
	readsAs(t, "1--1", two(api.CSub, num(1), one(api.CNeg, num(1))))
	readsAs(t, "1 - - - 1", two(api.CSub, num(1), one(api.CNeg, one(api.CNeg, num(1)))))
	readsAs(t, "!x != !x", two(api.CNe, one(api.CLog, x), one(api.CLog, x)))
}

func TestCasts(t *testing.T) {
	x := name("x")
	for word, is := range typeWords() {
		readsAs(t, "("+word+")x", cast(is, x))
		readsAs(t, "( "+word+" ) (x)", cast(is, x))
		readsAs(t, "("+word+")("+word+")1", cast(is, cast(is, num(1))))
		readsAs(t, "(("+word+")x)", cast(is, x))
		for _, b := range twoSigns() {
			readsAs(t, "("+word+")x "+b+" 1", two(signKinds[b], cast(is, x), num(1)))
			readsAs(t, "1 "+b+" ("+word+")x", two(signKinds[b], num(1), cast(is, x)))
			readsAs(t, "("+word+")(x "+b+" 1)", cast(is, two(signKinds[b], x, num(1))))
		}
	}
	readsAs(t, "(u8)-1", cast(u8t, one(api.CNeg, num(1))))
	readsAs(t, "(u8)a[1]", cast(u8t, at("a", num(1))))
	readsAs(t, "(u8)f(1)", cast(u8t, call("f", num(1))))
	readsAs(t, "(u8)(i8)!(u64)x", cast(u8t, cast(i8t, one(api.CLog, cast(u64t, x)))))
}

func TestPieces(t *testing.T) {
	x := name("x")
	for _, n := range []uint64{0, 1, 32767, 32768, 65535, 65536, 1<<31 - 1, 1 << 31, 1<<32 - 1, 1 << 32, 1<<63 - 1} {
		readsAs(t, digits(n), num(n))
		readsAs(t, digits(n)+"u", unum(n))
		readsAs(t, "00"+digits(n)+"u", unum(n))
	}
	readsAs(t, "18446744073709551615u", unum(1<<64-1))
	readsAs(t, "x", x)
	readsAs(t, "(x)", x)
	readsAs(t, "(((x)))", x)
	readsAs(t, "a[x]", at("a", x))
	readsAs(t, "a[(x)]", at("a", x))
	readsAs(t, "a[x + 1]", at("a", two(api.CAdd, x, num(1))))
	readsAs(t, "a[a[a[0]]]", at("a", at("a", at("a", num(0)))))
	readsAs(t, "f()", call("f"))
	readsAs(t, "f(x)", call("f", x))
	readsAs(t, "f((x))", call("f", x))
	readsAs(t, "f(1, x || 2, g())", call("f", num(1), two(api.CLor, x, num(2)), call("g")))
	readsAs(t, "f(1,2,3,4,5,6,7,8)", call("f", num(1), num(2), num(3), num(4), num(5), num(6), num(7), num(8)))
	readsAs(t, "f(f(f()))", call("f", call("f", call("f"))))
	readsAs(t, "a[1] + f(2) * x", two(api.CAdd, at("a", num(1)), two(api.CMul, call("f", num(2)), x)))
}

func digits(n uint64) string {
	out := ""
	for {
		out = string(rune('0'+n%10)) + out
		if n /= 10; n == 0 {
			return out
		}
	}
}

// Blanks, tabs, line feeds and remarks may stand between all tokens, and none need stand where two are told apart without.
func TestReadWithAnyBlanks(t *testing.T) {
	want, f := Read(sample)
	if f != (api.Fault{}) {
		t.Fatal(f)
	}
	tokens, _ := Tokens(sample)
	for _, between := range []string{" ", "\n", "\t \n", "//\n", " // } ; # \n "} {
		text := between
		for _, x := range tokens {
			text += x.Text
			if x.Kind == api.TokNumber && !x.Type.Signed {
				text += "u"
			}
			text += between
		}
		reads(t, text, want)
	}
}

// sample has each form at least once.
const sample = `i16 x; u8 y = 1 + 2u; i32 a[4] = {1, (u8)-2, f(1, 2)}; u64 e[2] = {}; u64 n[2];
void f() { ; { } { x; } return; }
i8 g(u16 p, i64 q) {
	i16 v; i16 w = p; v = w; a[v + 1] = ~q; g();
	if (v == 1 || !w) v = 2; else if (a[0] < 3) { } else { return v * (w - 1); }
	while (p) { break; continue; }
	for (;;) ; for (v = 0; v < 4; v = v + 1) f(); for (f(); ; g(1)) { }
	return 1;
}
`
