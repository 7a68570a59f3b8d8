package build

import (
	"fmt"
	"strings"
	"testing"

	"pairlegal/api"
	"pairlegal/check"
	"pairlegal/source"
)

// L1

// TestWhatCheckSays: each error, with its place.
func TestWhatCheckSays(t *testing.T) {
	for _, c := range []struct {
		text string
		want api.Fault
	}{
		{"", api.Fault{Err: api.ErrNone}},
		{"i16 x;", api.Fault{Err: api.ErrNone, At: 1}},
		{"i16 x; void f() { }", api.Fault{Err: api.ErrNone, At: 2}},
		{"void main(i16 x) { }", api.Fault{Err: api.ErrNone, At: 1}},
		{"i16 put; void main() { }", api.Fault{Err: api.ErrName}},
		{"i16 x; i16 x; void main() { }", api.Fault{Err: api.ErrName, At: 1}},
		{"i16 a[8000]; u8 x; void main() { }", api.Fault{Err: api.ErrMuch, At: 1}},
		{"u64 a[2001]; void main() { }", api.Fault{Err: api.ErrMuch}},
		{"i16 x = 1 / 0; void main() { }", api.Fault{Err: api.ErrZero}},
		{"i16 x; i16 y = x; void main() { }", api.Fault{Err: api.ErrFit, At: 1}},
		{"void main() { } i16 main() { }", api.Fault{Err: api.ErrName, At: 1}},
		{"void get() { } void main() { }", api.Fault{Err: api.ErrName}},
		{"void f(u8 a, i64 a) { } void main() { }", api.Fault{Err: api.ErrName}},
		{"i16 main() { x; }", api.Fault{Err: api.ErrName}},
		{"i16 x; void f() { } i16 main() { return f(); }", api.Fault{Err: api.ErrType, At: 2}},
		{"void main() { break; }", api.Fault{Err: api.ErrFit}},
		{"void main() { put(); }", api.Fault{Err: api.ErrMany}},
		{"void main() { put(put(1)); }", api.Fault{Err: api.ErrType}},
		{"i16 a[2]; void main() { a; }", api.Fault{Err: api.ErrType, At: 1}},
		{"void main() { { i16 y; } y = 1; }", api.Fault{Err: api.ErrName}},
		{"void main() { " + declared(51) + "}", api.Fault{Err: api.ErrMuch}},
	} {
		p := read(t, c.text)
		if fault := check.Check(p); fault != c.want {
			t.Errorf("Check: %v comes, not %v, of %s", fault, c.want, c.text)
		}
		refuses(t, p, c.want)
	}
}

// declared are so many variables of four words each.
func declared(n int) string {
	var out strings.Builder
	for i := range n {
		fmt.Fprintf(&out, "u64 v%d; ", i)
	}
	return out.String()
}

// TestWhatIsMadeByHand: programs that no text makes.
func TestWhatIsMadeByHand(t *testing.T) {
	loop := list(api.Stat{Kind: api.SBlock})
	loop[0].Body = loop
	deep := num(1)
	for range api.MaxShape {
		deep = one(api.CNeg, deep)
	}
	for _, c := range []struct {
		p    api.Program
		want api.Errno
	}{
		{api.Program{Funcs: []api.Func{mainOf(api.Stat{})}}, api.ErrKind},
		{api.Program{Funcs: []api.Func{mainOf(expr(api.Expr{}))}}, api.ErrKind},
		{api.Program{Funcs: []api.Func{mainOf(expr(api.Expr{Kind: api.CAdd}))}}, api.ErrMany},
		{api.Program{Funcs: []api.Func{mainOf(expr(api.Expr{Kind: api.CNum, Type: u8t}))}}, api.ErrType},
		{api.Program{Funcs: []api.Func{mainOf(loop...)}}, api.ErrMuch},
		{api.Program{Funcs: []api.Func{mainOf(expr(deep))}}, api.ErrMuch},
		{api.Program{Funcs: []api.Func{{Name: "9"}}}, api.ErrName},
		{api.Program{Funcs: make([]api.Func, api.MaxFuncs+1)}, api.ErrMany},
		{api.Program{Globals: []api.Global{{Name: "x", Type: i16t, Size: -1}}, Funcs: []api.Func{mainOf()}}, api.ErrRange},
	} {
		refuses(t, c.p, api.Fault{Err: c.want})
	}
}

// filled is a program of that many nodes: as many pieces as find room between ahead and behind, and SNone for what is left.
func filled(t *testing.T, ahead, piece, behind string, nodes int) api.Program {
	t.Helper()
	bare := source.Nodes(read(t, ahead+behind))
	each := source.Nodes(read(t, ahead+piece+behind)) - bare
	p := read(t, ahead+many(piece, (nodes-bare)/each)+behind)
	last := len(p.Funcs) - 1
	for source.Nodes(p) < nodes {
		p.Funcs[last].Body = append(list(none()), p.Funcs[last].Body...)
	}
	return p
}

// TestMaxBuild: a program of MaxBuild nodes is built, and one of one more is not, wherever these are.
func TestMaxBuild(t *testing.T) {
	for _, c := range []struct{ ahead, piece, behind string }{
		{"void main() { ", "; ", "}"},
		{"void main() { ", "1; ", "}"},
		{"i16 x; void main() { ", "x = x + 1; ", "put(x); }"},
		{"i16 x; void f() { ", "x = x + 1; ", "put(x); } void main() { f(); }"},
		{"i16 x; void f() { ", "x = x + 1; ", "put(x); } void main() { }"},
		{"u64 a[1000] = {0", ", 9223372036854775807", "}; i16 main() { put(a[1] >> 56); put(a[20] >> 56); return 1; }"},
	} {
		for nodes := api.MaxBuild - 3; nodes <= api.MaxBuild; nodes++ {
			comesToEnd(t, filled(t, c.ahead, c.piece, c.behind, nodes), "")
		}
		for nodes := api.MaxBuild + 1; nodes <= api.MaxBuild+3; nodes++ {
			refuses(t, filled(t, c.ahead, c.piece, c.behind, nodes), api.Fault{Err: api.ErrMuch})
		}
		refuses(t, filled(t, c.ahead, c.piece, c.behind, 900), api.Fault{Err: api.ErrMuch})
	}
	// What Check says comes first.
	refuses(t, filled(t, "void main() { ", "1; ", "x; }", 5000), api.Fault{Err: api.ErrName})
	refuses(t, filled(t, "i16 x; void f() { ", "1; ", "}", 501), api.Fault{Err: api.ErrNone, At: 2})
	refuses(t, filled(t, "i16 x; void f() { 1; } void main() { ", "1; ", "break; }", 501), api.Fault{Err: api.ErrFit, At: 2})
}

// TestTheGreatestImages: programs of nothing but what takes many words.
func TestTheGreatestImages(t *testing.T) {
	const around = "i64 x = -5; i16 y = 3; i8 z = -2; u64 a[4]; i64 f(i8 p, i64 q) { return p; } i64 g(i64 p, i64 q, i64 r, i64 s, i64 t, i64 u, i64 v, i64 w) { return w; } "
	longest := 0
	for _, piece := range []string{
		"x / y;", "z % x;", "y * x;", "x << x;", "x >> y;", "z = y / x;", "x = z + x;", "x + (z + y);", "x - -x;", "x == -x;", "x <= -y;", "!(x < -z);", "x && y || !z;", "a[z + 2];", "a[0] = y;", "a[a[1]] = -x;",
		"-x;", "~z;", "- -x;", "(i8)x;", "(i8)(i64)(i8)x;", "f(z, y);", "f(x, x);", "g(y, y, y, y, y, y, y, y);", "get();", "put(x);", "if (x) { ; } else { ; }", "while (!x) { }", "for (x = x; !x; x = x) { }", "while (x) { break; }", "for (;;) { return; }", "for (x = -3; x; x = x + 1) { continue; }", "{ { ; } }",
	} {
		p := filled(t, around+"void main() { ", piece+" ", "put(x); }", api.MaxBuild)
		does(t, p, "ab")
		image := built(t, p)
		longest = max(longest, len(image.Words))
	}
	for _, c := range []struct{ ahead, piece, behind string }{
		{"u64 a[1000] = {0", ", 9223372036854775807", "}; void main() { put(a[400] >> 48); }"},
		{"void main() { put(65);", "if (1) { while (1) { i64 x; break; } }", "put(66); }"},
	} {
		// A function declares no name twice, so each has another one.
		p := filled(t, c.ahead, c.piece, c.behind, api.MaxBuild)
		renamed(p.Funcs[0].Body, new(int))
		comesToEnd(t, p, "")
		image := built(t, p)
		longest = max(longest, len(image.Words))
	}
	t.Logf("%d words at most", longest)
}

// renamed gives each name that is declared another one.
func renamed(l []api.Stat, n *int) {
	for i := range l {
		if l[i].Kind == api.SDecl {
			*n++
			l[i].Name, l[i].Type = fmt.Sprintf("x%d", *n), u8t
		}
		renamed(l[i].Body, n)
	}
}

// TestManyFunctions: as many as there may be, called or not.
func TestManyFunctions(t *testing.T) {
	var text, calls strings.Builder
	for i := range api.MaxFuncs - 1 {
		fmt.Fprintf(&text, "u64 A_name_of_a_function_with_32_%03d(u64 a, u8 b) { return a; } ", i)
		fmt.Fprintf(&calls, "A_name_of_a_function_with_32_%03d(1, 2); ", i)
	}
	halts(t, text.String()+"void main() { put(65); }", "", "A", 0)
	// Not all of these calls find room in a program.
	p := read(t, text.String()+"void main() { "+calls.String()+"put(65); }")
	refuses(t, p, api.Fault{Err: api.ErrMuch})
	p.Funcs[api.MaxFuncs-1].Body = p.Funcs[api.MaxFuncs-1].Body[50:]
	if r := comesToEnd(t, p, ""); string(r.Output) != "A" {
		t.Errorf("%q comes", r.Output)
	}
}

// TestTheStart: numbers of all are there within what three ticks allow, however many there are.
func TestTheStart(t *testing.T) {
	p := filled(t, "u64 a[1000] = {1", ", 9223372036854775807", "}; void main() { }", api.MaxBuild)
	r := comesToEnd(t, p, "")
	if r.How != api.RanHalt || r.Steps > 3*api.Cost {
		t.Errorf("how %d, %d steps", r.How, r.Steps)
	}
}
