package source

import (
	"math/rand/v2"
	"strings"
	"sync"
	"testing"

	"pairlegal/api"
)

func shows(t *testing.T, p api.Program, want string) {
	t.Helper()
	got, err := Show(p)
	if got != want || err != api.OK {
		t.Errorf("Show(%.300s): %q, %d comes, not %q", told(p), got, err, want)
	}
}

// showsIn is for a statement: as it stands in a function, and deeper.
func showsIn(t *testing.T, s api.Stat, want string) {
	t.Helper()
	lines := strings.Split(want, "\n")
	shows(t, body(s), "void f() {\n\t"+strings.Join(lines, "\n\t")+"\n}\n")
	shows(t, body(none(), s, s), "void f() {\n\t;\n\t"+strings.Join(append(lines, lines...), "\n\t")+"\n}\n")
	shows(t, body(block(while(num(1), s))), "void f() {\n\t{\n\t\twhile (1) {\n\t\t\t"+strings.Join(lines, "\n\t\t\t")+"\n\t\t}\n\t}\n}\n")
}

// showsAs is for an expression, wherever one may stand.
func showsAs(t *testing.T, x api.Expr, want string) {
	t.Helper()
	shows(t, globals(api.Global{Type: i16t, Name: "x", Init: []api.Expr{x}}), "i16 x = "+want+";\n")
	shows(t, globals(api.Global{Type: i16t, Name: "x", Size: 2, Init: []api.Expr{x, x}}), "i16 x[2] = {"+want+", "+want+"};\n")
	shows(t, body(expr(x), retOf(x), declAs(u8t, "v", x), set("v", x), setAt("v", x, x)), "void f() {\n\t"+want+";\n\treturn "+want+";\n\tu8 v = "+want+";\n\tv = "+want+";\n\tv["+want+"] = "+want+";\n}\n")
	shows(t, body(expr(at("a", x)), expr(call("f", x)), expr(call("f", x, num(1), x))), "void f() {\n\ta["+want+"];\n\tf("+want+");\n\tf("+want+", 1, "+want+");\n}\n")
	shows(t, body(ifs(x, nil, nil), while(x), api.Stat{Kind: api.SFor, Init: list(expr(x)), Has: true, X: x, Step: list(expr(x))}), "void f() {\n\tif ("+want+") {\n\t}\n\twhile ("+want+") {\n\t}\n\tfor ("+want+"; "+want+"; "+want+") {\n\t}\n}\n")
}

// H7

func TestShowVariables(t *testing.T) {
	shows(t, api.Program{}, "")
	shows(t, globals(api.Global{Type: i16t, Name: "x"}), "i16 x;\n")
	shows(t, globals(api.Global{Type: i16t, Name: "x", Init: manyNums(1)}), "i16 x = 0;\n")
	shows(t, globals(api.Global{Type: u8t, Name: "a", Size: 3}), "u8 a[3];\n")
	shows(t, globals(api.Global{Type: u8t, Name: "a", Size: 8000}), "u8 a[8000];\n")
	shows(t, globals(api.Global{Type: u8t, Name: "a", Size: 1, Init: manyNums(1)}), "u8 a[1] = {0};\n")
	shows(t, globals(api.Global{Type: u8t, Name: "a", Size: 3, Init: manyNums(2)}), "u8 a[3] = {0, 1};\n")
	shows(t, globals(api.Global{Type: u8t, Name: "a", Size: 3, Init: manyNums(3)}, api.Global{Type: i64t, Name: "b"}), "u8 a[3] = {0, 1, 2};\ni64 b;\n")
	for word, is := range typeWords() {
		shows(t, globals(api.Global{Type: is, Name: "x"}), word+" x;\n")
	}
}

func TestShowFunctions(t *testing.T) {
	shows(t, body(), "void f() {\n}\n")
	shows(t, funcs(api.Func{Name: "f", Params: []api.Param{{Type: i16t, Name: "a"}, {Type: u8t, Name: "b"}}}), "void f(i16 a, u8 b) {\n}\n")
	for word, is := range typeWords() {
		shows(t, funcs(api.Func{Name: "g", Result: is, Params: []api.Param{{Type: is, Name: "p"}}, Body: list(ret())}), word+" g("+word+" p) {\n\treturn;\n}\n")
	}
	shows(t, api.Program{Globals: []api.Global{{Type: i16t, Name: "x"}}, Funcs: []api.Func{{Name: "f"}, {Name: "g", Result: i8t, Body: list(none(), none())}}}, "i16 x;\nvoid f() {\n}\ni8 g() {\n\t;\n\t;\n}\n")
}

func TestShowStatements(t *testing.T) {
	x := name("x")
	showsIn(t, none(), ";")
	showsIn(t, decl(i16t, "x"), "i16 x;")
	showsIn(t, declAs(i16t, "x", num(1)), "i16 x = 1;")
	showsIn(t, set("x", num(1)), "x = 1;")
	showsIn(t, setAt("a", num(0), num(1)), "a[0] = 1;")
	showsIn(t, expr(call("f")), "f();")
	showsIn(t, ret(), "return;")
	showsIn(t, retOf(num(1)), "return 1;")
	showsIn(t, api.Stat{Kind: api.SBreak}, "break;")
	showsIn(t, api.Stat{Kind: api.SContinue}, "continue;")
	showsIn(t, ifs(x, nil, nil), "if (x) {\n}")
	showsIn(t, ifs(x, list(none()), nil), "if (x) {\n\t;\n}")
	showsIn(t, ifs(x, list(none()), list(ret())), "if (x) {\n\t;\n} else {\n\treturn;\n}")
	showsIn(t, ifs(x, nil, list(none(), ret())), "if (x) {\n} else {\n\t;\n\treturn;\n}")
	showsIn(t, ifs(x, nil, list(ifs(num(1), nil, list(none())))), "if (x) {\n} else {\n\tif (1) {\n\t} else {\n\t\t;\n\t}\n}")
	showsIn(t, ifs(x, list(block()), nil), "if (x) {\n\t{\n\t}\n}")
	showsIn(t, while(x), "while (x) {\n}")
	showsIn(t, while(x, none(), ret()), "while (x) {\n\t;\n\treturn;\n}")
	showsIn(t, block(), "{\n}")
	showsIn(t, block(none(), block(ret()), none()), "{\n\t;\n\t{\n\t\treturn;\n\t}\n\t;\n}")
}

func TestShowFor(t *testing.T) {
	x := name("x")
	init, test, step := list(set("x", num(0))), two(api.CLt, x, num(5)), list(set("x", two(api.CAdd, x, num(1))))
	showsIn(t, api.Stat{Kind: api.SFor, Init: init, Has: true, X: test, Step: step}, "for (x = 0; x < 5; x = x + 1) {\n}")
	showsIn(t, api.Stat{Kind: api.SFor, Has: true, X: test, Step: step}, "for (; x < 5; x = x + 1) {\n}")
	showsIn(t, api.Stat{Kind: api.SFor, Init: init, Step: step}, "for (x = 0;; x = x + 1) {\n}")
	showsIn(t, api.Stat{Kind: api.SFor, Init: init, Has: true, X: test}, "for (x = 0; x < 5;) {\n}")
	showsIn(t, api.Stat{Kind: api.SFor, Init: init}, "for (x = 0;;) {\n}")
	showsIn(t, api.Stat{Kind: api.SFor, Has: true, X: test}, "for (; x < 5;) {\n}")
	showsIn(t, api.Stat{Kind: api.SFor, Step: step}, "for (;; x = x + 1) {\n}")
	showsIn(t, api.Stat{Kind: api.SFor}, "for (;;) {\n}")
	showsIn(t, api.Stat{Kind: api.SFor, X: test}, "for (;;) {\n}")
	showsIn(t, api.Stat{Kind: api.SFor, Init: list(setAt("a", x, x)), Step: list(expr(call("f"))), Body: list(none(), ret())}, "for (a[x] = x;; f()) {\n\t;\n\treturn;\n}")
}

func TestShowPieces(t *testing.T) {
	x := name("x")
	showsAs(t, num(0), "0")
	showsAs(t, num(7), "7")
	showsAs(t, unum(7), "7u")
	showsAs(t, num(1<<63-1), "9223372036854775807")
	showsAs(t, unum(1<<64-1), "18446744073709551615u")
	showsAs(t, x, "x")
	showsAs(t, at("a", num(1)), "a[1]")
	showsAs(t, call("f"), "f()")
	showsAs(t, call("f", x, unum(2), call("g")), "f(x, 2u, g())")
	showsAs(t, at("a", two(api.CLor, x, num(1))), "a[x || 1]")
	showsAs(t, call("f", two(api.CLor, x, num(1)), one(api.CNeg, x)), "f(x || 1, -x)")
	showsAs(t, one(api.CNeg, x), "-x")
	showsAs(t, one(api.CNot, x), "~x")
	showsAs(t, one(api.CLog, x), "!x")
	for word, is := range typeWords() {
		showsAs(t, cast(is, x), "("+word+")x")
	}
}

func TestShowBracketsThatAreNeeded(t *testing.T) {
	a, b, c := name("a"), name("b"), name("c")
	for _, s := range twoSigns() {
		showsAs(t, two(signKinds[s], a, b), "a "+s+" b")
		for _, u := range twoSigns() {
			left, right := "a "+s+" b "+u+" c", "a "+s+" b "+u+" c"
			if weight(s) < weight(u) {
				left = "(a " + s + " b) " + u + " c"
			} else {
				right = "a " + s + " (b " + u + " c)"
			}
			shows(t, body(expr(two(signKinds[u], two(signKinds[s], a, b), c))), "void f() {\n\t"+left+";\n}\n")
			shows(t, body(expr(two(signKinds[s], a, two(signKinds[u], b, c)))), "void f() {\n\t"+right+";\n}\n")
		}
		for ahead, kind := range map[string]int{"-": api.CNeg, "~": api.CNot, "!": api.CLog} {
			showsAs(t, two(signKinds[s], one(kind, a), b), ahead+"a "+s+" b")
			showsAs(t, two(signKinds[s], a, one(kind, b)), "a "+s+" "+ahead+"b")
			showsAs(t, one(kind, two(signKinds[s], a, b)), ahead+"(a "+s+" b)")
		}
		showsAs(t, two(signKinds[s], cast(u8t, a), cast(i8t, b)), "(u8)a "+s+" (i8)b")
		showsAs(t, cast(u8t, two(signKinds[s], a, b)), "(u8)(a "+s+" b)")
	}
	showsAs(t, one(api.CNeg, one(api.CNeg, a)), "--a")
	showsAs(t, one(api.CNeg, one(api.CNot, one(api.CLog, a))), "-~!a")
	showsAs(t, two(api.CSub, a, one(api.CNeg, one(api.CNeg, b))), "a - --b")
	showsAs(t, cast(u8t, cast(i8t, one(api.CNeg, a))), "(u8)(i8)-a")
	showsAs(t, one(api.CNeg, cast(u8t, at("a", two(api.CAdd, a, b)))), "-(u8)a[a + b]")
	showsAs(t, two(api.CSub, two(api.CMul, two(api.CAdd, num(1), num(2)), num(3)), two(api.CSub, num(4), num(5))), "(1 + 2) * 3 - (4 - 5)")
}

func TestShowTooMuch(t *testing.T) {
	// 13 bytes of the function, 1872 lines of 35 bytes, and one of 3: as many as may be.
	l := list(none())
	for range 1872 {
		l = append(l, expr(name(strings.Repeat("n", 32))))
	}
	for more := range 4 {
		got, err := Show(funcs(api.Func{Name: "f" + strings.Repeat("f", more), Body: l}))
		if more == 0 && (len(got) != api.MaxSource || err != api.OK) {
			t.Errorf("Show of %d bytes: %d bytes, %d comes", api.MaxSource, len(got), err)
		}
		if more > 0 && (got != "" || err != api.ErrMuch) {
			t.Errorf("Show of %d bytes: %d bytes, %d comes", api.MaxSource+more, len(got), err)
		}
	}
	readsAgain(t, body(l...))
	// Few nodes, but long lines.
	s := block(manyNone(1000)...)
	for range 90 {
		s = block(s)
	}
	if got, err := Show(body(s)); got != "" || err != api.ErrMuch {
		t.Errorf("Show of long lines: %d bytes, %d comes", len(got), err)
	}
	// What is wrong is told first.
	s = block(append(manyNone(19000), api.Stat{})...)
	if _, err := Show(body(s)); err != api.ErrKind {
		t.Errorf("Show of long lines with a wrong one: %d comes", err)
	}
}

// readsAgain: what is written is read as what it was, and written in the same way.
func readsAgain(t *testing.T, p api.Program) {
	t.Helper()
	text, err := Show(p)
	if err != api.OK {
		t.Fatalf("Show(%.300s): %d comes", told(p), err)
	}
	got, f := Read(text)
	if f != (api.Fault{}) || !same(got, p) {
		t.Fatalf("Read(%q): %+v, %v comes, not %+v", short(text), got, f, p)
	}
	if again, _ := Show(got); again != text {
		t.Fatalf("%q is written again as %q", short(text), short(again))
	}
}

// maker makes programs; from the same start they are always the same.
type maker struct{ *rand.Rand }

func (m maker) name() string {
	return []string{"x", "y", "_", "A9", "main", "put", "ifx", strings.Repeat("n", 32)}[m.IntN(8)]
}

func (m maker) is() api.Type {
	return []api.Type{i8t, u8t, i16t, u16t, i32t, u32t, i64t, u64t}[m.IntN(8)]
}

func (m maker) number() api.Expr {
	n := m.Uint64() >> m.IntN(64)
	if n < 1<<63 && m.IntN(2) == 0 {
		return num(n)
	}
	return unum(n)
}

func (m maker) expr(deep int) api.Expr {
	if deep == 0 || m.IntN(6) == 0 {
		if m.IntN(2) == 0 {
			return m.number()
		}
		return name(m.name())
	}
	switch m.IntN(10) {
	case 0:
		return at(m.name(), m.expr(deep-1))
	case 1:
		return call(m.name(), m.exprs(deep-1, api.MaxParams)...)
	case 2:
		return cast(m.is(), m.expr(deep-1))
	case 3, 4:
		return one(heads[m.IntN(3)], m.expr(deep-1))
	}
	return two(twos[m.IntN(len(twos))], m.expr(deep-1), m.expr(deep-1))
}

func (m maker) exprs(deep, most int) []api.Expr {
	out := make([]api.Expr, m.IntN(min(most, 8)+1))
	for i := range out {
		out[i] = m.expr(min(deep, 1))
	}
	return out
}

func (m maker) done() api.Stat {
	switch m.IntN(3) {
	case 0:
		return set(m.name(), m.expr(2))
	case 1:
		return setAt(m.name(), m.expr(2), m.expr(2))
	}
	return expr(m.expr(3))
}

func (m maker) perhaps() []api.Stat {
	if m.IntN(2) == 0 {
		return nil
	}
	return list(m.done())
}

func (m maker) stats(deep int) []api.Stat {
	if deep == 0 {
		return nil
	}
	out := make([]api.Stat, m.IntN(4))
	for i := range out {
		out[i] = m.stat(deep)
	}
	return out
}

func (m maker) stat(deep int) api.Stat {
	has := m.IntN(2) == 0
	var x api.Expr
	if has {
		x = m.expr(3)
	}
	switch m.IntN(11) {
	case 0:
		return none()
	case 1:
		return api.Stat{Kind: api.SDecl, Type: m.is(), Name: m.name(), Has: has, X: x}
	case 2:
		return api.Stat{Kind: api.SReturn, Has: has, X: x}
	case 3:
		return api.Stat{Kind: api.SBreak}
	case 4:
		return api.Stat{Kind: api.SContinue}
	case 5:
		return ifs(m.expr(2), m.stats(deep-1), m.stats(deep-1))
	case 6:
		return while(m.expr(2), m.stats(deep-1)...)
	case 7:
		return api.Stat{Kind: api.SFor, Init: m.perhaps(), Has: has, X: x, Step: m.perhaps(), Body: m.stats(deep - 1)}
	case 8:
		return block(m.stats(deep - 1)...)
	}
	return m.done()
}

func (m maker) program() api.Program {
	var p api.Program
	for range m.IntN(4) {
		g := api.Global{Type: m.is(), Name: m.name(), Size: m.IntN(3) * m.IntN(5)}
		g.Init = m.exprs(3, max(1, g.Size))
		p.Globals = append(p.Globals, g)
	}
	for range m.IntN(4) {
		f := api.Func{Name: m.name(), Body: m.stats(4)}
		if m.IntN(2) == 0 {
			f.Result = m.is()
		}
		for range m.IntN(api.MaxParams + 1) {
			f.Params = append(f.Params, api.Param{Type: m.is(), Name: m.name()})
		}
		p.Funcs = append(p.Funcs, f)
	}
	return p
}

func TestWhatIsWrittenIsRead(t *testing.T) {
	readsAgain(t, api.Program{})
	readsAgain(t, wholeProgram())
	m := maker{rand.New(rand.NewPCG(8, 7))}
	for range 1500 {
		readsAgain(t, m.program())
	}
	for range 3000 {
		readsAgain(t, body(expr(m.expr(6))))
	}
}

// The deepest programs are still read.
func TestTheDeepestAreRead(t *testing.T) {
	for _, around := range deepStats() {
		s := none()
		for range api.MaxShape - 2 {
			s = around(s)
		}
		readsAgain(t, body(s))
	}
	for _, kid := range kidPlaces()[1:] {
		x := num(1)
		for range (api.MaxShape - 3) / 2 {
			x = kid(x)
		}
		readsAgain(t, body(expr(x)))
		for k := range heads {
			x = num(1)
			for range 24 {
				x = kid(one(heads[k], kid(cast(u8t, two(api.CLor, num(1), x)))))
			}
			if Wrong(body(expr(x))) == api.OK {
				readsAgain(t, body(expr(x)))
			}
		}
	}
}

// without are all texts that lack one pair of a text's brackets.
func without(text string) []string {
	var out []string
	for i := range len(text) {
		if text[i] != '(' {
			continue
		}
		open := 0
		for j := i; j < len(text); j++ {
			switch text[j] {
			case '(':
				open++
			case ')':
				open--
			}
			if open == 0 {
				out = append(out, text[:i]+" "+text[i+1:j]+" "+text[j+1:])
				break
			}
		}
	}
	return out
}

// TestNoNeedlessBrackets: without any pair of its brackets a text is another one, or none.
func TestNoNeedlessBrackets(t *testing.T) {
	m := maker{rand.New(rand.NewPCG(5, 5))}
	looked := 0
	for range 2000 {
		p := globals(api.Global{Type: i16t, Name: "x", Init: []api.Expr{m.expr(4)}})
		text, _ := Show(p)
		for _, s := range without(text) {
			looked++
			if got, f := Read(s); f == (api.Fault{}) && same(got, p) {
				t.Fatalf("%q: %q is the same", text, s)
			}
		}
	}
	if looked < 1000 {
		t.Errorf("only %d pairs of brackets were looked at", looked)
	}
}

// The programs here are written as Show writes them.
var written = []string{
	"i16 main() {\n\tput(65);\n\treturn 7;\n}\n",
	"u8 buf[20];\nvoid dec(u64 n) {\n\ti16 k = 0;\n\twhile (n > 9u) {\n\t\tbuf[k] = n % 10u + 48u;\n\t\tn = n / 10u;\n\t\tk = k + 1;\n\t}\n\tbuf[k] = n + 48u;\n\twhile (k >= 0) {\n\t\tput(buf[k]);\n\t\tk = k - 1;\n\t}\n\tput(10);\n}\ni16 main() {\n\tu32 a = 1u;\n\tu32 b = 0u;\n\ti16 c = get();\n\twhile (c >= 0) {\n\t\ta = (a + (u32)c) % 65521u;\n\t\tb = (b + a) % 65521u;\n\t\tc = get();\n\t}\n\tdec(b << 16 | a);\n\treturn 0;\n}\n",
	"i16 main() {\n\ti16 c;\n\tfor (;;) {\n\t\tc = get();\n\t\tif (c < 0) {\n\t\t\tbreak;\n\t\t}\n\t\tif (c == 32 || c > 96 && c < 100) {\n\t\t\tcontinue;\n\t\t}\n\t\tput(~c);\n\t\tput(!c);\n\t\tput(-c);\n\t}\n\treturn 1 / (c + 1);\n}\n",
	"i64 x = -9223372036854775807 - 1;\nu16 a[4] = {1, 2u, (u8)-3};\nvoid code(i16 v, u8 w) {\n\tif (v < 26) {\n\t\tput((v & 3) << 4 | w >> 4);\n\t} else {\n\t\t;\n\t}\n\tfor (v = 0; v < 8; v = v + 1) {\n\t\ta[v] = 1;\n\t}\n}\n",
}

func TestWrittenStaysAsItIs(t *testing.T) {
	for _, text := range written {
		p, f := Read(text)
		if f != (api.Fault{}) {
			t.Errorf("Read(%q): %v comes", text, f)
		}
		shows(t, p, text)
	}
	p, _ := Read("void f(){if(1)if(2);else x;}//\ni16 g=((1+2));")
	shows(t, p, "i16 g = 1 + 2;\nvoid f() {\n\tif (1) {\n\t\tif (2) {\n\t\t\t;\n\t\t} else {\n\t\t\tx;\n\t\t}\n\t}\n}\n")
}

// What holds everywhere.

// roomy is a program whose lists have spare room with other things in it.
func roomy(p api.Program) api.Program {
	for i := range p.Globals {
		p.Globals[i].Init = append(p.Globals[i].Init, bad, bad)[:len(p.Globals[i].Init)]
	}
	for i := range p.Funcs {
		p.Funcs[i].Params = append(p.Funcs[i].Params, api.Param{}, api.Param{})[:len(p.Funcs[i].Params)]
		p.Funcs[i].Body = append(p.Funcs[i].Body, api.Stat{}, api.Stat{})[:len(p.Funcs[i].Body)]
	}
	p.Globals = append(p.Globals, api.Global{})[:len(p.Globals)]
	p.Funcs = append(p.Funcs, api.Func{})[:len(p.Funcs)]
	return p
}

func TestWhatIsHandedInIsOnlyRead(t *testing.T) {
	p := roomy(wholeProgram())
	want, _ := Show(wholeProgram())
	shows(t, p, want)
	isWrong(t, p, api.OK)
	hasNodes(t, p, 41)
	if !same(p, wholeProgram()) || !same(p.Globals[:3][2], api.Global{}) || !same(p.Funcs[:3][2], api.Func{}) || !same(p.Funcs[0].Body[:10][9], api.Stat{}) || !same(p.Globals[0].Init[:3][1:], []api.Expr{bad, bad}) {
		t.Error("the program was changed")
	}
}

// An answer is the caller's: who changes one changes neither another one nor another part of it.
func TestAnswersShareNothing(t *testing.T) {
	want, _ := Read(sample)
	first, _ := Read(sample)
	second, _ := Read(sample)
	tokens, _ := Tokens(sample)
	again, _ := Tokens(sample)
	if !same(tokens, again) {
		t.Error("the tokens are not the same")
	}
	for i := range tokens {
		tokens[i] = api.Token{}
	}
	_ = append(tokens, make([]api.Token, cap(tokens)-len(tokens))...)
	if more, _ := Tokens(sample); !same(more, again) {
		t.Error("the tokens have changed")
	}
	for i := range first.Globals {
		spoil(first.Globals[i].Init)
	}
	for i := range first.Funcs {
		spoilStats(first.Funcs[i].Body)
		f := &first.Funcs[i]
		f.Params = append(f.Params, make([]api.Param, cap(f.Params)-len(f.Params))...)
	}
	if third, _ := Read(sample); !same(second, want) || !same(third, want) {
		t.Error("the program has changed")
	}
}

// spoil writes into all of a list, its spare room too; kids first, so that what is shared would be found spoilt.
func spoil(l []api.Expr) {
	l = l[:cap(l)]
	for i := range l {
		if l[i].Kind < 0 {
			panic("two lists share memory")
		}
		spoil(l[i].Kids)
		l[i] = api.Expr{Kind: -1}
	}
}

func spoilStats(l []api.Stat) {
	l = l[:cap(l)]
	for i := range l {
		if l[i].Kind < 0 {
			panic("two lists share memory")
		}
		for _, x := range [][]api.Expr{l[i].X.Kids, l[i].I.Kids} {
			spoil(x)
		}
		for _, s := range [][]api.Stat{l[i].Init, l[i].Step, l[i].Body, l[i].Else} {
			spoilStats(s)
		}
		l[i] = api.Stat{Kind: -1}
	}
}

func TestNilIsEmpty(t *testing.T) {
	p := api.Program{Globals: []api.Global{{Type: i16t, Name: "x", Init: []api.Expr{}}}, Funcs: []api.Func{{Name: "f", Params: []api.Param{}, Body: []api.Stat{
		{Kind: api.SFor, Init: []api.Stat{}, Step: []api.Stat{}, Body: []api.Stat{}, Else: []api.Stat{}}, {Kind: api.SIf, X: api.Expr{Kind: api.CCall, Name: "f", Kids: []api.Expr{}}, Body: []api.Stat{}, Else: []api.Stat{}},
	}}}}
	shows(t, p, "i16 x;\nvoid f() {\n\tfor (;;) {\n\t}\n\tif (f()) {\n\t}\n}\n")
	readsAgain(t, p)
	hasNodes(t, p, 5)
	isWrong(t, api.Program{Globals: []api.Global{}, Funcs: []api.Func{}}, api.OK)
}

// Calls side by side tell what they tell alone.
func TestSideBySide(t *testing.T) {
	want, _ := Read(sample)
	text, _ := Show(want)
	var all sync.WaitGroup
	for k := range 8 {
		all.Go(func() {
			for i := range 50 {
				bad := "void f() {" + strings.Repeat("(", 1+(k*50+i)%500)
				if _, f := Read(bad); f.Err == api.OK {
					t.Errorf("Read(%q): no fault comes", bad)
				}
				p, f := Read(sample)
				if s, _ := Show(p); s != text || f != (api.Fault{}) {
					t.Errorf("%q, %v comes", s, f)
				}
			}
		})
	}
	all.Wait()
}

func FuzzRead(f *testing.F) {
	for _, s := range append(append([]string{sample, "", "#", "i16 x = 1 = 2;", "void f() { f() = 1; }", "u8 a[0];", "i16 x = ((1)) - (2 - 3u)"}, written...), grammarSamples...) {
		f.Add(s)
	}
	f.Fuzz(func(t *testing.T, s string) {
		want, wantF := tokensMust(s)
		if got, fault := Tokens(s); len(s) <= api.MaxSource && (fault != wantF || !same(got, want)) {
			t.Fatalf("Tokens(%q): %+v, %v comes, not %+v, %v", s, got, fault, want, wantF)
		}
		p, fault := Read(s)
		if fault.Err != api.OK {
			if fault.At < 0 || fault.At > len(s) || !same(p, api.Program{}) {
				t.Fatalf("Read(%q): %+v, %v comes", s, p, fault)
			}
			return
		}
		if fault.At != 0 || Wrong(p) != api.OK {
			t.Fatalf("Read(%q): %v comes, and Wrong says %d", s, fault, Wrong(p))
		}
		if text, err := Show(p); err == api.OK {
			readsAgain(t, p)
		} else if text != "" || err != api.ErrMuch {
			t.Fatalf("Show of %q: %q, %d comes", s, text, err)
		}
	})
}
