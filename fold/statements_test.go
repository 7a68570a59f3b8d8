package fold

import (
	"math/rand"
	"reflect"
	"strings"
	"testing"

	"pairlegal/api"
	"pairlegal/check"
	"pairlegal/source"
)

// J3

// turns holds what Program makes of a program against the text that it must be.
func turns(t *testing.T, p api.Program, want string) {
	t.Helper()
	out, f := Program(p)
	if got := toldProgram(out); got != want || f != (api.Fault{}) {
		t.Errorf("Program, %v, of\n%scomes as\n%snot\n%s", f, toldProgram(p), got, want)
	}
}

// around has what the programs of these tests have ahead of main.
const around = "i16 x;\nu8 a[9];\nvoid f(i64 n) {\n}\n"

// inMain does so with statements of main; they are told as the ones that they must be are.
func inMain(t *testing.T, body, want string) {
	t.Helper()
	turns(t, read(t, around+"void main() {"+body+"}"), toldProgram(read(t, around+"void main() {"+want+"}")))
}

func TestProgramByHand(t *testing.T) {
	for _, c := range [][2]string{
		{"i16 main() { put(65); return 7; }", "i16 main() {\n\tput(65);\n\treturn 7;\n}\n"},
		{"i16 x = 1 + 2 * 3; void main() { }", "i16 x = 7;\nvoid main() {\n}\n"},
		{"u8 g = 300; i32 a[3] = {1, -2, 3 << 20}; i64 b[2] = {(i64)3 << 20}; u8 c[2]; u16 d; i64 e = -9223372036854775807 - 1; void main() { }", "u8 g = 300;\ni32 a[3] = {1, (i16)65534u, 0};\ni64 b[2] = {(i64)3145728u};\nu8 c[2];\nu16 d;\ni64 e = (i64)9223372036854775808u;\nvoid main() {\n}\n"},
		{"void f(i16 a, u8 b) { a = b + (2 + 3); } u32 g() { return 1 + 1; } void main() { f(1 + 1, g()); }", "void f(i16 a, u8 b) {\n\ta = b + 5;\n}\nu32 g() {\n\treturn 2;\n}\nvoid main() {\n\tf(2, g());\n}\n"},
		{"i16 main() { return ~0u >> 1 == 32767u; }", "i16 main() {\n\treturn 1;\n}\n"},
	} {
		turns(t, read(t, c[0]), c[1])
	}
}

// TestPlacesOfExpressions: each place of each kind of statement.
func TestPlacesOfExpressions(t *testing.T) {
	for _, c := range [][2]string{
		{"i16 y;", "i16 y;"}, {"i16 y = 1 + 2;", "i16 y = 3;"}, {"u8 y = x + (1 + 2);", "u8 y = x + 3;"},
		{"x = 2 - 7;", "x = (i16)65531u;"}, {"x = x * (2 - 1);", "x = x * 1;"}, {"a[1 + 2] = 3 + 4;", "a[3] = 7;"}, {"a[x + (1 + 2)] = a[2 * 2] + 3 * 3;", "a[x + 3] = a[4] + 9;"}, {"a[9 / 0] = 9 % 0;", "a[9 / 0] = 9 % 0;"},
		{"1 + 2;", "3;"}, {"put(1 + 2);", "put(3);"}, {"f((i64)1 << 40);", "f(1099511627776);"}, {"put(!0 && x);", "put(1 && x);"}, {"x;", "x;"},
		{"return;", "return;"}, {";", ";"}, {"{ }", "{ }"}, {"{ x = 1 + 2; { put(3 * 3); } }", "{ x = 3; { put(9); } }"},
		{"if (x + (1 + 2)) { x = 1 + 2; } else { x = 3 * 3; }", "if (x + 3) { x = 3; } else { x = 9; }"}, {"if (x) x = 1 + 2;", "if (x) x = 3;"}, {"if (1 / 0) { x = 1 + 2; } else { 1 + 1; }", "if (1 / 0) { x = 3; } else { 2; }"},
		{"while (x < 3 + 4) { x = x + (2 - 1); }", "while (x < 7) { x = x + 1; }"}, {"while (x) { break; continue; }", "while (x) { break; continue; }"},
		{"for (x = 1 + 2; x < 3 + 4; x = x + (2 - 1)) { put(1 + 1); }", "for (x = 3; x < 7; x = x + 1) { put(2); }"}, {"for (put(1 + 2); ; put(3 + 4)) { x = 5 * 5; }", "for (put(3); ; put(7)) { x = 25; }"},
		{"for (a[1 + 1] = 2 + 2; ; a[3 + 3] = 4 + 4) { }", "for (a[2] = 4; ; a[6] = 8) { }"}, {"for (;;) { x = 1 + 1; }", "for (;;) { x = 2; }"}, {"for (; 1 + 1;) { continue; }", "for (; 2;) { continue; }"},
	} {
		inMain(t, c[0], c[1])
	}
	turns(t, read(t, "i16 main() { return 1 + 2; }"), "i16 main() {\n\treturn 3;\n}\n")
	turns(t, read(t, "i16 main() { return main() + (1 + 2); }"), "i16 main() {\n\treturn main() + 3;\n}\n")
}

// TestKnownConditions: what is known, 0 and not 0, of SIf and SWhile; of SFor nothing is made.
func TestKnownConditions(t *testing.T) {
	noughts := []string{"0", "0u", "1 - 1", "(u8)256", "(i64)0", "!5", "1 && 0", "(u64)(u8)256", "2 < 1", "(i8)0"}
	others := []string{"1", "7u", "1 - 2", "(u8)255", "(i64)1", "!0", "1 || 0", "65536", "(i32)65536", "4294967296", "(i8)128", "1 < 2", "18446744073709551615u"}
	for _, x := range noughts {
		inMain(t, "if ("+x+") { x = 1; put(2); }", "{ }")
		inMain(t, "if ("+x+") { x = 1; put(2); } else { x = 3; put(1 + 3); }", "{ x = 3; put(4); }")
		inMain(t, "if ("+x+") { } else { ; }", "{ ; }")
		inMain(t, "while ("+x+") { x = 1; break; }", ";")
		inMain(t, "while ("+x+") { }", ";")
	}
	for _, x := range others {
		inMain(t, "if ("+x+") { x = 1; put(1 + 1); }", "{ x = 1; put(2); }")
		inMain(t, "if ("+x+") { x = 1; put(2); } else { x = 3; put(4); }", "{ x = 1; put(2); }")
		inMain(t, "if ("+x+") { } else { x = 3; }", "{ }")
		inMain(t, "while ("+x+") { x = 1; break; }", "while ("+told(Expr(readExpr(t, x)))+") { x = 1; break; }")
	}
	for _, x := range append(noughts, others...) {
		inMain(t, "for (; "+x+"; ) { x = 1; break; }", "for (; "+told(Expr(readExpr(t, x)))+"; ) { x = 1; break; }")
	}
	for _, x := range []string{"x", "x * 0", "0 && x", "1 / 0", "a[0]", "get()", "(u8)x", "x == x"} {
		for _, s := range []string{"if (" + x + ") { x = 1; }", "if (" + x + ") { x = 1; } else { x = 2; }", "while (" + x + ") { x = 1; }"} {
			inMain(t, s, s)
		}
	}
}

// TestOneWithinTheOther: in each kind of block.
func TestOneWithinTheOther(t *testing.T) {
	known := [][2]string{
		{"if (1) { x = 1; } else { x = 2; }", "{ x = 1; }"}, {"if (0) { x = 1; } else { x = 2; }", "{ x = 2; }"}, {"if (0) { x = 1; }", "{ }"}, {"while (0) { x = 1; }", ";"}, {"while (1) { x = 1 + 1; }", "while (1) { x = 2; }"},
		{"if (1 - 1) { while (0) { } } else { if (1) { while (0) { } put(3); } }", "{ { ; put(3); } }"}, {"if (0) ; else if (1) x = 1; else x = 2;", "{ { x = 1; } }"}, {"if (0) ; else if (0) x = 1; else x = 2;", "{ { x = 2; } }"},
	}
	blocks := []string{
		"S", "{ S }", "if (x) { S }", "if (x) { } else { S }", "if (x) { S } else { S }", "while (x) { S }", "while (1) { S }", "for (; x; ) { S }", "for (;;) { put(1); S S }", "for (x = 1; ; x = 2) { S }",
		"if (x) { while (x) { for (;;) { { S } } } } else { while (2) { S } }",
	}
	for _, k := range known {
		for _, b := range blocks {
			inMain(t, strings.ReplaceAll(b, "S", k[0]), strings.ReplaceAll(b, "S", k[1]))
		}
		inMain(t, "if (1) { "+k[0]+" "+k[0]+" }", "{ "+k[1]+" "+k[1]+" }")
		inMain(t, "if (0) { } else { "+k[0]+" }", "{ "+k[1]+" }")
		inMain(t, "if (1) { put(1); } else { "+k[0]+" }", "{ put(1); }")
		inMain(t, "while (0) { "+k[0]+" }", ";")
		turns(t, read(t, "i16 x; void f() { "+k[0]+" } void main() { }"), toldProgram(read(t, "i16 x; void f() { "+k[1]+" } void main() { }")))
	}
}

// TestNamesStayInTheirBlock: what a choice declares is seen no further than it was.
func TestNamesStayInTheirBlock(t *testing.T) {
	inMain(t, "if (1) { i16 y = 1 + 1; x = y; } else { i16 z; z = 1; } x = 3;", "{ i16 y = 2; x = y; } x = 3;")
	p := read(t, "i16 y = 5; i16 main() { if (1) { i16 y = 6; } return y; }")
	out, _ := Program(p)
	if f := check.Check(out); f != (api.Fault{}) || out.Funcs[0].Body[0].Kind != api.SBlock {
		t.Errorf("%v comes of\n%s", f, toldProgram(out))
	}
}

// TestProgramsThatAreWrong: what Check says, and nothing beside it.
func TestProgramsThatAreWrong(t *testing.T) {
	for _, text := range []string{
		"", "i16 x;", "i16 x = 1 / 0; void main() { }", "i16 x = y; void main() { }", "i16 x; u8 x; void main() { }", "i16 put; void main() { }", "i16 a[8000]; i16 b; void main() { }",
		"void main(i16 x) { }", "void f() { } void f() { } void main() { }", "void main() { x = 1; }", "void main() { if (0) { x = 1; } }", "void main() { while (0) { return 1; } }", "void main() { if (1) { } else { break; } }", "i16 main() { return; }",
		"void f() { } void main() { f(1); }", "void f() { } i16 main() { return f(); }", "void main() { i16 y; if (0) { i16 y; } }", "u8 a[9]; void f(i64 n) { } void main() { a[1 + 2] = 3 + 4; f(1 << 20); put(!0 && x(1)); }",
	} {
		p := read(t, text)
		out, f := Program(p)
		if want := check.Check(p); f != want || want.Err == api.OK || !reflect.DeepEqual(out, api.Program{}) {
			t.Errorf("Program of %q: %+v, %v comes, not %v", text, out, f, want)
		}
	}
	long := num(1)
	for range api.MaxShape {
		long = one(api.CNeg, long)
	}
	loop := make([]api.Stat, 1)
	loop[0] = api.Stat{Kind: api.SBlock, Body: loop}
	for _, c := range []struct {
		s    api.Stat
		want api.Errno
	}{
		{api.Stat{}, api.ErrKind}, {api.Stat{Kind: api.SBlock + 1}, api.ErrKind}, {expr(api.Expr{}), api.ErrKind}, {expr(cast(api.Type{}, num(1))), api.ErrType}, {expr(api.Expr{Kind: api.CAdd}), api.ErrMany}, {expr(name("")), api.ErrName},
		{expr(long), api.ErrMuch}, {expr(endless(api.CNeg, 1)), api.ErrMuch}, {loop[0], api.ErrMuch}, {api.Stat{Kind: api.SFor, Init: list(none())}, api.ErrFit}, {api.Stat{Kind: api.SBreak}, api.ErrFit},
	} {
		out, f := Program(api.Program{Funcs: []api.Func{mainOf(c.s)}})
		if f != (api.Fault{Err: c.want}) || !reflect.DeepEqual(out, api.Program{}) {
			t.Errorf("%+v, %v comes, not %d", out, f, c.want)
		}
	}
}

// TestStatementsStay: what a statement has beside expressions stays, and one that took another's place has nothing else.
func TestStatementsStay(t *testing.T) {
	p := read(t, "u8 g[7] = {1}; i32 f(i16 a, u64 b) { i8 c = 1 + 1; g[1 + 1] = 2; return 3; } void main() { if (g[0]) { return; } for (;;) { continue; } }")
	out, f := Program(p)
	if want := modelProgram(p); f != (api.Fault{}) || !reflect.DeepEqual(bareProgram(out), bareProgram(want)) {
		t.Errorf("%+v, %v comes, not %+v", out, f, want)
	}
	for _, s := range []api.Stat{
		{Kind: api.SIf, X: num(1), Type: i16t, Name: "y", Has: true, I: num(1), Body: list(none()), Else: list(none(), none()), Init: list(none()), Step: list(none())},
		{Kind: api.SIf, X: num(0), Type: i16t, Name: "y", Has: true, I: num(1), Else: list(none()), Body: list(none(), none()), Init: list(none()), Step: list(none())},
	} {
		out, _ := Program(api.Program{Funcs: []api.Func{mainOf(s)}})
		if got, want := out.Funcs[0].Body[0], (api.Stat{Kind: api.SBlock, Body: list(none())}); !reflect.DeepEqual(got, want) {
			t.Errorf("%+v comes, not %+v", got, want)
		}
	}
	s := api.Stat{Kind: api.SWhile, X: num(0), Type: i16t, Name: "y", Has: true, I: num(1), Body: list(none()), Else: list(none(), none()), Init: list(none()), Step: list(none())}
	out, _ = Program(api.Program{Funcs: []api.Func{mainOf(s)}})
	if got := out.Funcs[0].Body[0]; !reflect.DeepEqual(got, none()) {
		t.Errorf("%+v comes", got)
	}
}

// TestPartsThatAKindHasNot: something in them may be wrong, or have no end; nothing is made of it.
func TestPartsThatAKindHasNot(t *testing.T) {
	loop := make([]api.Stat, 1)
	loop[0] = api.Stat{Kind: api.SBlock, Body: loop}
	x := endless(api.CNeg, 1)
	has := func(s api.Stat, parts string) api.Stat {
		out := api.Stat{Kind: s.Kind, Type: api.Type{Bits: 3}, Name: "5", Has: true, X: x, I: x, Init: loop, Step: loop, Body: loop, Else: loop}
		for _, part := range strings.Fields(parts) {
			reflect.ValueOf(&out).Elem().FieldByName(part).Set(reflect.ValueOf(s).FieldByName(part))
		}
		return out
	}
	sum := two(api.CAdd, num(1), num(2))
	set := api.Stat{Kind: api.SSet, Name: "x", X: sum}
	for _, c := range []struct {
		s     api.Stat
		parts string
		want  string
	}{
		{none(), "", ";"}, {api.Stat{Kind: api.SDecl, Type: i8t, Name: "y"}, "Type Name Has", "i8 y;"}, {api.Stat{Kind: api.SDecl, Type: i8t, Name: "y", Has: true, X: sum}, "Type Name Has X", "i8 y = 3;"},
		{set, "Name Has X", "x = 3;"}, {api.Stat{Kind: api.SSet, Name: "a", Has: true, I: sum, X: sum}, "Name Has I X", "a[3] = 3;"}, {expr(sum), "X", "3;"}, {api.Stat{Kind: api.SReturn}, "Has", "return;"},
		{api.Stat{Kind: api.SIf, X: name("x"), Body: list(set), Else: list(set)}, "X Body Else", "if (x) { x = 3; } else { x = 3; }"}, {api.Stat{Kind: api.SIf, X: sum, Body: list(set)}, "X Body Else", "{ x = 3; }"}, {api.Stat{Kind: api.SWhile, X: sum, Body: list(set)}, "X Body", "while (3) { x = 3; }"}, {api.Stat{Kind: api.SWhile, X: num(0)}, "X Body", ";"},
		{api.Stat{Kind: api.SFor, Init: list(set), Step: list(set), Body: list(set)}, "Has Init Step Body", "for (x = 3; ; x = 3) { x = 3; }"}, {api.Stat{Kind: api.SFor, Has: true, X: sum}, "Has X Init Step Body", "for (; 3;) { }"}, {api.Stat{Kind: api.SBlock, Body: list(set)}, "Body", "{ x = 3; }"},
	} {
		p := read(t, around+"void main() { }")
		p.Funcs[1].Body = list(has(c.s, c.parts))
		turns(t, p, toldProgram(read(t, around+"void main() {"+c.want+"}")))
	}
}

// bareProgram is a program whose expressions are bare, without lists that are empty.
func bareProgram(p api.Program) api.Program {
	var out api.Program
	for _, g := range p.Globals {
		l := g.Init
		g.Init = nil
		for _, x := range l {
			g.Init = append(g.Init, bare(x))
		}
		out.Globals = append(out.Globals, g)
	}
	for _, f := range p.Funcs {
		f.Params = append([]api.Param(nil), f.Params...)
		f.Body = bareBlock(f.Body)
		out.Funcs = append(out.Funcs, f)
	}
	return out
}

func bareBlock(l []api.Stat) (out []api.Stat) {
	for _, s := range l {
		s.X, s.I = bare(s.X), bare(s.I)
		s.Init, s.Step, s.Body, s.Else = bareBlock(s.Init), bareBlock(s.Step), bareBlock(s.Body), bareBlock(s.Else)
		out = append(out, s)
	}
	return out
}

func TestProgramsAgainstModel(t *testing.T) {
	kinds := make([]int, api.SBlock+1)
	for seed := range int64(6000) {
		m := &maker{Rand: rand.New(rand.NewSource(seed))}
		p := m.program()
		agrees(t, p)
		out, _ := Program(p)
		for _, f := range out.Funcs {
			for _, s := range f.Body {
				kinds[s.Kind]++
			}
		}
		if t.Failed() {
			return
		}
	}
	for kind, n := range kinds {
		if kind > 0 && kind != api.SBreak && kind != api.SContinue && n < 100 {
			t.Errorf("just %d statements of kind %d came", n, kind)
		}
	}
}

// agrees holds what comes of a program against the model, and against what must hold of it anyway: it is right, no greater, and nothing more becomes of it.
func agrees(t *testing.T, p api.Program) {
	t.Helper()
	out, f := Program(p)
	if want := check.Check(p); f != want {
		t.Errorf("%v comes, not %v, of\n%s", f, want, toldProgram(p))
	}
	if f.Err != api.OK {
		return
	}
	if want := modelProgram(p); !reflect.DeepEqual(bareProgram(out), bareProgram(want)) {
		t.Errorf("of\n%scomes\n%snot\n%s", toldProgram(p), toldProgram(out), toldProgram(want))
	}
	if f := check.Check(out); f != (api.Fault{}) || source.Nodes(out) > source.Nodes(p) {
		t.Errorf("%v and %d nodes, of\n%s", f, source.Nodes(out), toldProgram(out))
	}
	if again, _ := Program(out); !reflect.DeepEqual(bareProgram(again), bareProgram(out)) {
		t.Errorf("of\n%scomes\n%s", toldProgram(out), toldProgram(again))
	}
}
