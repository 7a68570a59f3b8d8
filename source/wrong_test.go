package source

import (
	"strings"
	"testing"

	"pairlegal/api"
)

func isWrong(t *testing.T, p api.Program, want api.Errno) {
	t.Helper()
	if got := Wrong(p); got != want {
		t.Errorf("Wrong(%.300s): %d comes, not %d", told(p), got, want)
	}
	if n := Nodes(p); n < 0 {
		t.Errorf("Nodes: %d comes", n)
	}
	if s, err := Show(p); want != api.OK && (s != "" || err != want) {
		t.Errorf("Show(%.300s): %.100q, %d comes, not %d", told(p), s, err, want)
	}
}

// H6

var (
	noTypes = []api.Type{{}, {Signed: true}, {Bits: 1}, {Bits: 7, Signed: true}, {Bits: 9}, {Bits: 12}, {Bits: 15, Signed: true}, {Bits: 17}, {Bits: 24}, {Bits: 63, Signed: true}, {Bits: 65}, {Bits: 128}, {Bits: -8}, {Bits: -16, Signed: true}, {Bits: 1<<63 - 1}, {Bits: -1 << 63}, {Bits: 1<<32 + 16}}
	noNames = []string{"", " ", "9", "9x", "x y", "x-y", "if", "void", "u8", "i64", "else", "é", "x\x00", "x\n", "(", strings.Repeat("x", 33), strings.Repeat("x", 1000)}
	noKinds = []int{-1 << 63, -11, -1, 0, 27, 28, 100, 256, 257, 1<<32 + 1, 1<<63 - 1}
)

// heads are the kinds of one kid that have nothing else, twos those of two.
var (
	heads = []int{api.CNeg, api.CNot, api.CLog}
	twos  = []int{api.CMul, api.CDiv, api.CRem, api.CAdd, api.CSub, api.CShl, api.CShr, api.CLt, api.CLe, api.CGt, api.CGe, api.CEq, api.CNe, api.CAnd, api.CXor, api.COr, api.CLand, api.CLor}
)

// exprPlaces has each place in which an expression may stand, but for kids.
func exprPlaces() []func(x api.Expr) api.Program {
	in := func(make func(x api.Expr) api.Stat) func(x api.Expr) api.Program {
		return func(x api.Expr) api.Program { return body(none(), make(x), none()) }
	}
	return []func(x api.Expr) api.Program{
		func(x api.Expr) api.Program {
			return globals(api.Global{Type: i16t, Name: "g"}, api.Global{Type: i16t, Name: "g", Init: []api.Expr{x}})
		},
		func(x api.Expr) api.Program {
			return globals(api.Global{Type: u8t, Name: "g", Size: 3, Init: []api.Expr{num(1), x, num(1)}})
		},
		in(expr),
		in(retOf),
		in(func(x api.Expr) api.Stat { return declAs(u8t, "v", x) }),
		in(func(x api.Expr) api.Stat { return set("v", x) }),
		in(func(x api.Expr) api.Stat { return setAt("v", num(1), x) }),
		in(func(x api.Expr) api.Stat { return setAt("v", x, num(1)) }),
		in(func(x api.Expr) api.Stat { return ifs(x, list(none()), list(none())) }),
		in(func(x api.Expr) api.Stat { return ifs(num(1), list(none(), expr(x)), nil) }),
		in(func(x api.Expr) api.Stat { return ifs(num(1), nil, list(expr(x), none())) }),
		in(func(x api.Expr) api.Stat { return while(x, none()) }),
		in(func(x api.Expr) api.Stat { return while(num(1), none(), expr(x)) }),
		in(func(x api.Expr) api.Stat { return api.Stat{Kind: api.SFor, Has: true, X: x} }),
		in(func(x api.Expr) api.Stat { return api.Stat{Kind: api.SFor, Init: list(expr(x))} }),
		in(func(x api.Expr) api.Stat { return api.Stat{Kind: api.SFor, Init: list(setAt("v", x, num(1)))} }),
		in(func(x api.Expr) api.Stat { return api.Stat{Kind: api.SFor, Step: list(set("v", x))} }),
		in(func(x api.Expr) api.Stat { return api.Stat{Kind: api.SFor, Step: list(expr(x))} }),
		in(func(x api.Expr) api.Stat { return api.Stat{Kind: api.SFor, Body: list(none(), expr(x))} }),
		in(func(x api.Expr) api.Stat { return block(none(), block(expr(x))) }),
	}
}

// kidPlaces has each place in which an expression may stand as a kid.
func kidPlaces() []func(x api.Expr) api.Expr {
	out := []func(x api.Expr) api.Expr{
		func(x api.Expr) api.Expr { return x },
		func(x api.Expr) api.Expr { return at("a", x) },
		func(x api.Expr) api.Expr { return cast(u8t, x) },
		func(x api.Expr) api.Expr { return call("f", x) },
		func(x api.Expr) api.Expr {
			return call("f", num(1), num(1), num(1), num(1), num(1), num(1), num(1), x)
		},
		func(x api.Expr) api.Expr { return call("f", num(1), call("f", x, num(1)), num(1)) },
	}
	for _, k := range heads {
		out = append(out, func(x api.Expr) api.Expr { return one(k, x) })
	}
	for _, k := range twos {
		out = append(out, func(x api.Expr) api.Expr { return two(k, x, num(1)) }, func(x api.Expr) api.Expr { return two(k, num(1), x) })
	}
	return out
}

func isWrongExpr(t *testing.T, x api.Expr, want api.Errno) {
	t.Helper()
	for _, place := range exprPlaces() {
		isWrong(t, place(x), want)
		isWrong(t, place(one(api.CNeg, x)), want)
	}
	for _, kid := range kidPlaces() {
		isWrong(t, body(expr(kid(x))), want)
		if got := WrongExpr(kid(x)); got != want {
			t.Errorf("WrongExpr(%+v): %d comes, not %d", kid(x), got, want)
		}
	}
}

// ofNodes is an expression of that many nodes.
func ofNodes(n int) api.Expr {
	switch n {
	case 1:
		return num(1)
	case 2:
		return one(api.CNeg, num(1))
	}
	return two(api.CAdd, ofNodes((n-1)/2), ofNodes(n-1-(n-1)/2))
}

// TestExpressionsThatStandAlone: as deep as a program, and with as many nodes.
func TestExpressionsThatStandAlone(t *testing.T) {
	holds := func(x api.Expr, want api.Errno) {
		t.Helper()
		if got := WrongExpr(x); got != want {
			t.Errorf("%d comes, not %d", got, want)
		}
	}
	deep := num(1)
	for range api.MaxShape - 1 {
		deep = one(api.CNeg, deep)
	}
	holds(deep, api.OK)
	holds(deep.Kids[0], api.OK)
	holds(one(api.CNot, deep), api.ErrMuch)

	holds(ofNodes(api.MaxNodes-1), api.OK)
	holds(ofNodes(api.MaxNodes), api.OK)
	holds(ofNodes(api.MaxNodes+1), api.ErrMuch)

	itself := make([]api.Expr, 2)
	itself[0] = two(api.CAdd, num(1), num(2))
	itself[1] = api.Expr{Kind: api.CAdd, Kids: itself}
	holds(itself[1], api.ErrMuch)
}

func TestExpressionsThatAreRight(t *testing.T) {
	for _, x := range []api.Expr{num(0), num(1), unum(0), num(32767), num(32768), num(1<<31 - 1), num(1 << 31), num(1<<63 - 1), unum(65535), unum(65536), unum(1<<32 - 1), unum(1 << 32), unum(1<<64 - 1), name("x"), name(strings.Repeat("x", 32)), at("a", num(1)), call("f"), cast(i8t, num(1)), cast(u64t, num(1))} {
		isWrongExpr(t, x, api.OK)
	}
	for n := range api.MaxParams + 1 {
		isWrongExpr(t, call("f", manyNums(n)...), api.OK)
	}
	for _, kid := range kidPlaces() {
		isWrongExpr(t, kid(name("x")), api.OK)
	}
	// Fields that a kind has not are not looked at.
	isWrongExpr(t, api.Expr{Kind: api.CNum, N: 1, Type: i16t, Name: "if"}, api.OK)
	isWrongExpr(t, api.Expr{Kind: api.CVar, N: 9, Type: api.Type{Bits: 3}, Name: "x"}, api.OK)
	isWrongExpr(t, api.Expr{Kind: api.CNeg, N: 9, Type: api.Type{Bits: 3}, Name: "if", Kids: []api.Expr{num(1)}}, api.OK)
	isWrongExpr(t, api.Expr{Kind: api.CCast, N: 9, Type: u8t, Name: "9", Kids: []api.Expr{num(1)}}, api.OK)
	isWrongExpr(t, api.Expr{Kind: api.CAdd, Type: api.Type{Bits: 3}, Name: "9", Kids: []api.Expr{num(1), num(2)}}, api.OK)
}

func manyNums(n int) []api.Expr {
	out := make([]api.Expr, n)
	for i := range out {
		out[i] = num(uint64(i))
	}
	return out
}

func TestKindsOfExpressionsThatAreNone(t *testing.T) {
	for _, k := range noKinds {
		for kids := range 4 {
			isWrongExpr(t, api.Expr{Kind: k, Kids: manyNums(kids)}, api.ErrKind)
		}
		isWrongExpr(t, api.Expr{Kind: k, N: 1, Type: i16t, Name: "x"}, api.ErrKind)
		// ErrKind is told ahead of all else.
		isWrongExpr(t, api.Expr{Kind: k, Type: api.Type{Bits: 3}, Name: "if", Kids: []api.Expr{{}}}, api.ErrKind)
	}
}

func TestNumbersOfOtherTypes(t *testing.T) {
	for _, c := range []struct {
		n    uint64
		i, u api.Type
	}{
		{0, i16t, u16t}, {1, i16t, u16t}, {32767, i16t, u16t}, {32768, i32t, u16t}, {65535, i32t, u16t}, {65536, i32t, u32t}, {1<<31 - 1, i32t, u32t}, {1 << 31, i64t, u32t}, {1<<32 - 1, i64t, u32t}, {1 << 32, i64t, u64t}, {1<<63 - 1, i64t, u64t}, {1 << 63, api.Type{}, u64t}, {1<<64 - 1, api.Type{}, u64t},
	} {
		all := append([]api.Type{i8t, u8t, i16t, u16t, i32t, u32t, i64t, u64t}, noTypes...)
		for _, is := range all {
			want := api.ErrType
			if is.Bits != 0 && (is == c.i || is == c.u) {
				want = api.OK
			}
			isWrong(t, body(expr(api.Expr{Kind: api.CNum, N: c.n, Type: is})), want)
		}
	}
	isWrongExpr(t, api.Expr{Kind: api.CNum, N: 1, Type: u8t}, api.ErrType)
	isWrongExpr(t, api.Expr{Kind: api.CNum, N: 1}, api.ErrType)
	isWrongExpr(t, api.Expr{Kind: api.CNum, N: 1 << 63, Type: i64t}, api.ErrType)
	// Its type is told ahead of its kids.
	isWrongExpr(t, api.Expr{Kind: api.CNum, N: 1, Type: i32t, Kids: manyNums(1)}, api.ErrType)
}

func TestNamesInExpressions(t *testing.T) {
	for _, s := range noNames {
		isWrongExpr(t, name(s), api.ErrName)
		isWrongExpr(t, at(s, num(1)), api.ErrName)
		isWrongExpr(t, call(s), api.ErrName)
		// A name is told ahead of how many kids there are, and of what is wrong with them.
		isWrongExpr(t, api.Expr{Kind: api.CVar, Name: s, Kids: manyNums(1)}, api.ErrName)
		isWrongExpr(t, api.Expr{Kind: api.CAt, Name: s}, api.ErrName)
		isWrongExpr(t, call(s, manyNums(9)...), api.ErrName)
		isWrongExpr(t, call(s, api.Expr{}), api.ErrName)
	}
	for _, is := range noTypes {
		isWrongExpr(t, cast(is, num(1)), api.ErrType)
		isWrongExpr(t, api.Expr{Kind: api.CCast, Type: is}, api.ErrType)
		isWrongExpr(t, cast(is, name("if")), api.ErrType)
	}
}

func TestHowManyKids(t *testing.T) {
	holds := func(x api.Expr, least, most int) {
		t.Helper()
		for n := range 12 {
			want := api.OK
			if n < least || n > most {
				want = api.ErrMany
			}
			x.Kids = manyNums(n)
			isWrong(t, body(expr(x)), want)
			if n > 0 {
				// How many there are is told ahead of what is wrong with one.
				x.Kids[0] = api.Expr{}
				if want == api.OK {
					want = api.ErrKind
				}
				isWrong(t, body(expr(x)), want)
			}
		}
	}
	holds(num(1), 0, 0)
	holds(name("x"), 0, 0)
	holds(call("f"), 0, api.MaxParams)
	holds(api.Expr{Kind: api.CAt, Name: "a"}, 1, 1)
	holds(api.Expr{Kind: api.CCast, Type: u8t}, 1, 1)
	for _, k := range heads {
		holds(api.Expr{Kind: k}, 1, 1)
	}
	for _, k := range twos {
		holds(api.Expr{Kind: k}, 2, 2)
	}
	isWrongExpr(t, one(api.CAdd, num(1)), api.ErrMany)
	isWrongExpr(t, two(api.CNeg, num(1), num(1)), api.ErrMany)
	isWrongExpr(t, call("f", manyNums(9)...), api.ErrMany)
}

// statPlaces has each place in which any statement may stand.
func statPlaces() []func(s api.Stat) api.Program {
	return []func(s api.Stat) api.Program{
		func(s api.Stat) api.Program { return body(s) },
		func(s api.Stat) api.Program { return body(none(), s, none()) },
		func(s api.Stat) api.Program {
			return api.Program{Globals: []api.Global{{Type: i16t, Name: "g"}}, Funcs: []api.Func{{Name: "f"}, {Name: "g", Result: u8t, Params: []api.Param{{Type: i16t, Name: "p"}}, Body: list(none(), s)}}}
		},
		func(s api.Stat) api.Program { return body(block(none(), s)) },
		func(s api.Stat) api.Program { return body(ifs(num(1), list(none(), s), list(none()))) },
		func(s api.Stat) api.Program { return body(ifs(num(1), list(none()), list(none(), s))) },
		func(s api.Stat) api.Program { return body(while(num(1), s, none())) },
		func(s api.Stat) api.Program { return body(api.Stat{Kind: api.SFor, Body: list(none(), s)}) },
		func(s api.Stat) api.Program {
			return body(api.Stat{Kind: api.SFor, Init: list(set("x", num(1))), Has: true, X: num(1), Step: list(expr(num(1))), Body: list(s)})
		},
	}
}

func isWrongStat(t *testing.T, s api.Stat, want api.Errno) {
	t.Helper()
	for _, place := range statPlaces() {
		isWrong(t, place(s), want)
	}
}

// bad is an expression of no kind.
var bad = api.Expr{}

func TestStatementsThatAreRight(t *testing.T) {
	for _, s := range []api.Stat{none(), decl(i16t, "x"), declAs(u8t, "x", num(1)), set("x", num(1)), setAt("x", num(1), num(2)), expr(num(1)), ret(), retOf(num(1)), {Kind: api.SBreak}, {Kind: api.SContinue}, ifs(num(1), nil, nil), while(num(1)), {Kind: api.SFor}, block()} {
		isWrongStat(t, s, api.OK)
	}
	// Fields that a kind has not, and an X without Has, are not looked at: they are of no kind here.
	noStat := list(api.Stat{})
	full := api.Stat{Type: api.Type{Bits: 3}, Name: "if", X: bad, I: bad, Init: noStat, Step: noStat, Body: noStat, Else: noStat}
	for _, has := range []bool{false, true} {
		full.Has = has
		for _, k := range []int{api.SNone, api.SBreak, api.SContinue} {
			s := full
			s.Kind = k
			isWrongStat(t, s, api.OK)
		}
		s := full
		s.Kind, s.Body = api.SBlock, nil
		isWrongStat(t, s, api.OK)
		s.Kind, s.X = api.SExpr, num(1)
		s.Body = noStat
		isWrongStat(t, s, api.OK)
		s = full
		s.Kind, s.X, s.Body, s.Else = api.SIf, num(1), nil, nil
		isWrongStat(t, s, api.OK)
		s.Kind, s.Else = api.SWhile, noStat
		isWrongStat(t, s, api.OK)
	}
	full.Has = false
	s := full
	s.Kind = api.SReturn
	isWrongStat(t, s, api.OK)
	s.Kind, s.Type, s.Name = api.SDecl, u8t, "x"
	isWrongStat(t, s, api.OK)
	s.Kind, s.Type, s.X = api.SSet, api.Type{}, num(1)
	isWrongStat(t, s, api.OK)
	s = full
	s.Kind, s.Init, s.Step, s.Body = api.SFor, nil, nil, nil
	isWrongStat(t, s, api.OK)
}

func TestStatementsThatAreNone(t *testing.T) {
	for _, k := range append([]int{12, 13, 26}, noKinds...) {
		isWrongStat(t, api.Stat{Kind: k}, api.ErrKind)
		isWrongStat(t, api.Stat{Kind: k, Type: i16t, Name: "x", Has: true, X: num(1), I: num(1)}, api.ErrKind)
		isWrongStat(t, api.Stat{Kind: k, Type: api.Type{Bits: 3}, Name: "if", X: name("if"), Body: list(expr(name("if")))}, api.ErrKind)
	}
}

func TestStatementsThatAreNotRight(t *testing.T) {
	for _, is := range noTypes {
		isWrongStat(t, decl(is, "x"), api.ErrType)
		isWrongStat(t, declAs(is, "if", bad), api.ErrType)
	}
	for _, s := range noNames {
		isWrongStat(t, decl(i16t, s), api.ErrName)
		isWrongStat(t, declAs(i16t, s, bad), api.ErrName)
		isWrongStat(t, set(s, num(1)), api.ErrName)
		isWrongStat(t, setAt(s, bad, bad), api.ErrName)
	}
	for _, s := range []api.Stat{declAs(i16t, "x", bad), set("x", bad), setAt("x", bad, num(1)), setAt("x", num(1), bad), expr(bad), retOf(bad), ifs(bad, nil, nil), while(bad), {Kind: api.SFor, Has: true, X: bad}} {
		isWrongStat(t, s, api.ErrKind)
	}
}

func TestWhatForDoes(t *testing.T) {
	set1, expr1 := set("x", num(1)), expr(num(1))
	for _, l := range [][]api.Stat{nil, {}, {set1}, {expr1}, {setAt("x", num(1), num(1))}} {
		isWrongStat(t, api.Stat{Kind: api.SFor, Init: l, Step: l}, api.OK)
	}
	for _, l := range [][]api.Stat{{set1, set1}, {set1, expr1}, {expr1, expr1, expr1}, {none(), none()}, {{}, {}}, {expr(bad), expr1}} {
		isWrongStat(t, api.Stat{Kind: api.SFor, Init: l}, api.ErrMany)
		isWrongStat(t, api.Stat{Kind: api.SFor, Step: l}, api.ErrMany)
	}
	others := []api.Stat{none(), decl(i16t, "x"), declAs(i16t, "x", num(1)), ifs(num(1), nil, nil), while(num(1)), {Kind: api.SFor}, ret(), retOf(num(1)), {Kind: api.SBreak}, {Kind: api.SContinue}, block(), block(set1), {}, {Kind: 12}, {Kind: -1}, retOf(bad), decl(api.Type{}, "if")}
	for _, s := range others {
		isWrongStat(t, api.Stat{Kind: api.SFor, Init: list(s)}, api.ErrFit)
		isWrongStat(t, api.Stat{Kind: api.SFor, Step: list(s)}, api.ErrFit)
	}
	for _, s := range []api.Stat{set("if", num(1)), set("if", bad), setAt("if", bad, num(1))} {
		isWrongStat(t, api.Stat{Kind: api.SFor, Init: list(s)}, api.ErrName)
		isWrongStat(t, api.Stat{Kind: api.SFor, Step: list(s)}, api.ErrName)
	}
}

func TestVariablesThatAreNotRight(t *testing.T) {
	holds := func(g api.Global, want api.Errno) {
		t.Helper()
		isWrong(t, globals(g), want)
		isWrong(t, globals(api.Global{Type: i16t, Name: "a"}, g), want)
		isWrong(t, api.Program{Globals: []api.Global{g}, Funcs: []api.Func{{Name: "f"}}}, want)
	}
	for _, is := range noTypes {
		holds(api.Global{Type: is, Name: "x"}, api.ErrType)
		holds(api.Global{Type: is, Name: "if", Size: -1, Init: manyNums(2)}, api.ErrType)
	}
	for _, s := range noNames {
		holds(api.Global{Type: i16t, Name: s}, api.ErrName)
		holds(api.Global{Type: i16t, Name: s, Size: -1, Init: manyNums(2)}, api.ErrName)
	}
	for _, n := range []int{-1 << 63, -8000, -1, 8001, 8002, 1 << 32, 1<<63 - 1} {
		holds(api.Global{Type: i16t, Name: "x", Size: n}, api.ErrRange)
		holds(api.Global{Type: i16t, Name: "x", Size: n, Init: manyNums(9000)}, api.ErrRange)
	}
	for _, n := range []int{0, 1, 2, 3, 7999, 8000} {
		holds(api.Global{Type: i16t, Name: "x", Size: n}, api.OK)
		holds(api.Global{Type: i16t, Name: "x", Size: n, Init: manyNums(1)}, api.OK)
		holds(api.Global{Type: i16t, Name: "x", Size: n, Init: manyNums(max(1, n))}, api.OK)
		holds(api.Global{Type: i16t, Name: "x", Size: n, Init: manyNums(max(1, n) + 1)}, api.ErrMany)
		holds(api.Global{Type: i16t, Name: "x", Size: n, Init: append([]api.Expr{bad}, manyNums(max(1, n))...)}, api.ErrMany)
		holds(api.Global{Type: i16t, Name: "x", Size: n, Init: []api.Expr{bad}}, api.ErrKind)
	}
	holds(api.Global{Type: i16t, Name: "x", Size: 2, Init: []api.Expr{num(1), bad}}, api.ErrKind)
}

func TestFunctionsThatAreNotRight(t *testing.T) {
	holds := func(f api.Func, want api.Errno) {
		t.Helper()
		isWrong(t, funcs(f), want)
		isWrong(t, funcs(api.Func{Name: "a"}, f, api.Func{Name: "b"}), want)
	}
	noStat := list(api.Stat{})
	tooMany := make([]api.Param, 9)
	for _, s := range noNames {
		holds(api.Func{Name: s}, api.ErrName)
		holds(api.Func{Name: s, Result: api.Type{Bits: 3}, Params: tooMany, Body: noStat}, api.ErrName)
	}
	for _, is := range noTypes {
		if is != (api.Type{}) {
			holds(api.Func{Name: "f", Result: is}, api.ErrType)
			holds(api.Func{Name: "f", Result: is, Params: tooMany, Body: noStat}, api.ErrType)
		}
		holds(api.Func{Name: "f", Params: []api.Param{{Type: i16t, Name: "a"}, {Type: is, Name: "if"}}, Body: noStat}, api.ErrType)
	}
	for _, is := range typeWords() {
		holds(api.Func{Name: "f", Result: is}, api.OK)
	}
	holds(api.Func{Name: "f", Params: tooMany, Body: noStat}, api.ErrMany)
	var params []api.Param
	for n := range 12 {
		want := api.OK
		if n > api.MaxParams {
			want = api.ErrMany
		}
		holds(api.Func{Name: "f", Params: params}, want)
		params = append(params, api.Param{Type: u8t, Name: "a"})
	}
	for k := range api.MaxParams {
		for _, s := range noNames {
			few := make([]api.Param, 0, 8)
			few = append(few, params[:api.MaxParams]...)
			few[k].Name = s
			holds(api.Func{Name: "f", Params: few, Body: noStat}, api.ErrName)
			few[k].Type.Bits = 3
			holds(api.Func{Name: "f", Params: few, Body: noStat}, api.ErrType)
		}
	}
	holds(api.Func{Name: "f", Params: []api.Param{{Type: i16t, Name: "if"}, {Name: "a"}}}, api.ErrName)
	holds(api.Func{Name: "f", Body: noStat}, api.ErrKind)
}

func TestHowManyFunctions(t *testing.T) {
	var l []api.Func
	for range api.MaxFuncs {
		l = append(l, api.Func{Name: "f"})
	}
	isWrong(t, funcs(l...), api.OK)
	l = append(l, api.Func{Name: "f"})
	isWrong(t, funcs(l...), api.ErrMany)
	// It is told ahead of all else.
	isWrong(t, api.Program{Globals: []api.Global{{}}, Funcs: l}, api.ErrMany)
	l[0].Name = "if"
	isWrong(t, funcs(l...), api.ErrMany)
	isWrong(t, funcs(l[:api.MaxFuncs]...), api.ErrName)
}

// wholeProgram has each part in which something may be wrong.
func wholeProgram() api.Program {
	return api.Program{
		Globals: []api.Global{{Type: i16t, Name: "g", Init: []api.Expr{two(api.CAdd, num(1), name("x"))}}, {Type: u8t, Name: "h", Size: 2, Init: []api.Expr{cast(u8t, num(1)), call("f", num(1), at("a", num(2)))}}},
		Funcs: []api.Func{
			{Name: "f", Result: i16t, Params: []api.Param{{Type: i16t, Name: "p"}, {Type: u8t, Name: "q"}}, Body: list(
				declAs(i16t, "d", num(1)),
				setAt("s", num(1), num(2)),
				expr(num(1)),
				retOf(num(1)),
				ifs(num(1), list(none(), block(none())), list(none())),
				while(num(1), none()),
				api.Stat{Kind: api.SFor, Init: list(set("x", num(1))), Has: true, X: num(1), Step: list(expr(num(1))), Body: list(none())},
				block(none()),
			)},
			{Name: "g", Body: list(none())},
		},
	}
}

// wholeFaults break wholeProgram, in the order in which Wrong comes to what is broken.
func wholeFaults() []struct {
	err api.Errno
	do  func(p *api.Program)
} {
	f := func(p *api.Program) *api.Func { return &p.Funcs[0] }
	return []struct {
		err api.Errno
		do  func(p *api.Program)
	}{
		{api.ErrType, func(p *api.Program) { p.Globals[0].Type.Bits = 3 }},
		{api.ErrName, func(p *api.Program) { p.Globals[0].Name = "" }},
		{api.ErrRange, func(p *api.Program) { p.Globals[0].Size = -1 }},
		{api.ErrMany, func(p *api.Program) { p.Globals[0].Init = append(p.Globals[0].Init, num(1)) }},
		{api.ErrKind, func(p *api.Program) { p.Globals[0].Init[0].Kind = 99 }},
		{api.ErrType, func(p *api.Program) { p.Globals[0].Init[0].Kids[0].Type = i32t }},
		{api.ErrMany, func(p *api.Program) { p.Globals[0].Init[0].Kids[0].Kids = manyNums(1) }},
		{api.ErrName, func(p *api.Program) { p.Globals[0].Init[0].Kids[1].Name = "if" }},
		{api.ErrRange, func(p *api.Program) { p.Globals[1].Size = 9000 }},
		{api.ErrType, func(p *api.Program) { p.Globals[1].Init[0].Type.Bits = 3 }},
		{api.ErrKind, func(p *api.Program) { p.Globals[1].Init[0].Kids[0].Kind = 0 }},
		{api.ErrName, func(p *api.Program) { p.Globals[1].Init[1].Name = "9" }},
		{api.ErrMany, func(p *api.Program) { p.Globals[1].Init[1].Kids[1].Kids = nil }},
		{api.ErrName, func(p *api.Program) { f(p).Name = "if" }},
		{api.ErrType, func(p *api.Program) { f(p).Result.Bits = 3 }},
		{api.ErrMany, func(p *api.Program) { f(p).Params = append(f(p).Params, make([]api.Param, 7)...) }},
		{api.ErrType, func(p *api.Program) { f(p).Params[0].Type.Bits = 0 }},
		{api.ErrName, func(p *api.Program) { f(p).Params[0].Name = "" }},
		{api.ErrType, func(p *api.Program) { f(p).Params[1].Type.Bits = 0 }},
		{api.ErrName, func(p *api.Program) { f(p).Params[1].Name = "" }},
		{api.ErrKind, func(p *api.Program) { f(p).Body[0].Kind = 12 }},
		{api.ErrType, func(p *api.Program) { f(p).Body[0].Type.Bits = 3 }},
		{api.ErrName, func(p *api.Program) { f(p).Body[0].Name = "" }},
		{api.ErrKind, func(p *api.Program) { f(p).Body[0].X.Kind = 27 }},
		{api.ErrName, func(p *api.Program) { f(p).Body[1].Name = "" }},
		{api.ErrType, func(p *api.Program) { f(p).Body[1].I.Type = u64t }},
		{api.ErrMany, func(p *api.Program) { f(p).Body[1].X.Kids = manyNums(1) }},
		{api.ErrKind, func(p *api.Program) { f(p).Body[2].X.Kind = 27 }},
		{api.ErrType, func(p *api.Program) { f(p).Body[3].X.Type = u8t }},
		{api.ErrMany, func(p *api.Program) { f(p).Body[4].X.Kids = manyNums(2) }},
		{api.ErrKind, func(p *api.Program) { f(p).Body[4].Body[0].Kind = 0 }},
		{api.ErrFit, func(p *api.Program) {
			f(p).Body[4].Body[1].Body[0] = api.Stat{Kind: api.SFor, Init: list(none())}
		}},
		{api.ErrKind, func(p *api.Program) { f(p).Body[4].Else[0].Kind = -1 }},
		{api.ErrType, func(p *api.Program) { f(p).Body[5].X.Type = i64t }},
		{api.ErrKind, func(p *api.Program) { f(p).Body[5].Body[0].Kind = 100 }},
		{api.ErrMany, func(p *api.Program) { f(p).Body[6].Init = append(f(p).Body[6].Init, expr(num(1))) }},
		{api.ErrFit, func(p *api.Program) { f(p).Body[6].Init[0].Kind = api.SDecl }},
		{api.ErrName, func(p *api.Program) { f(p).Body[6].Init[0].Name = "" }},
		{api.ErrKind, func(p *api.Program) { f(p).Body[6].Init[0].X.Kind = -5 }},
		{api.ErrType, func(p *api.Program) { f(p).Body[6].X.Type = i64t }},
		{api.ErrMany, func(p *api.Program) { f(p).Body[6].Step = append(f(p).Body[6].Step, expr(num(1))) }},
		{api.ErrFit, func(p *api.Program) { f(p).Body[6].Step[0].Kind = api.SNone }},
		{api.ErrType, func(p *api.Program) { f(p).Body[6].Step[0].X.Type = i64t }},
		{api.ErrKind, func(p *api.Program) { f(p).Body[6].Body[0].Kind = 99 }},
		{api.ErrFit, func(p *api.Program) { f(p).Body[7].Body[0] = api.Stat{Kind: api.SFor, Step: list(block())} }},
		{api.ErrName, func(p *api.Program) { p.Funcs[1].Name = "void" }},
		{api.ErrKind, func(p *api.Program) { p.Funcs[1].Body[0].Kind = 99 }},
	}
}

// TestTheFirstIsTold breaks a program at two places: what is come to first is told.
func TestTheFirstIsTold(t *testing.T) {
	isWrong(t, wholeProgram(), api.OK)
	all := wholeFaults()
	for i, a := range all {
		p := wholeProgram()
		a.do(&p)
		if got := Wrong(p); got != a.err {
			t.Errorf("fault %d: %d comes, not %d", i, got, a.err)
		}
		for j, b := range all[i+1:] {
			p := wholeProgram()
			b.do(&p)
			a.do(&p)
			if got := Wrong(p); got != a.err {
				t.Errorf("fault %d ahead of %d: %d comes, not %d", i, i+1+j, got, a.err)
			}
		}
	}
}

func hasNodes(t *testing.T, p api.Program, want int) {
	t.Helper()
	if got := Nodes(p); got != want || Wrong(p) != api.OK {
		t.Errorf("Nodes(%.300s): %d comes, not %d; Wrong says %d", told(p), got, want, Wrong(p))
	}
}

func TestNodes(t *testing.T) {
	hasNodes(t, api.Program{}, 0)
	hasNodes(t, globals(api.Global{Type: i16t, Name: "x"}), 1)
	hasNodes(t, globals(api.Global{Type: i16t, Name: "x", Init: manyNums(1)}, api.Global{Type: i16t, Name: "x", Size: 5, Init: manyNums(4)}), 7)
	hasNodes(t, funcs(api.Func{Name: "f", Params: []api.Param{{Type: i16t, Name: "p"}}}, api.Func{Name: "f"}), 2)
	for n, stats := range map[int][]api.Stat{
		1: {none(), decl(i16t, "x"), ret(), {Kind: api.SBreak}, {Kind: api.SContinue}, {Kind: api.SFor}, block()},
		2: {declAs(i16t, "x", num(1)), set("x", num(1)), expr(num(1)), retOf(num(1)), ifs(num(1), nil, nil), while(num(1)), {Kind: api.SFor, Has: true, X: num(1)}, {Kind: api.SFor, Body: list(none())}, block(none())},
		3: {setAt("x", num(1), num(1)), expr(one(api.CNeg, num(1))), expr(cast(u8t, num(1))), expr(at("a", num(1))), expr(call("f", num(1))), ifs(num(1), list(none()), nil), ifs(num(1), nil, list(none())), while(num(1), none()), block(block(none())), {Kind: api.SFor, Init: list(expr(num(1)))}, {Kind: api.SFor, Step: list(expr(num(1)))}},
		4: {expr(two(api.CAdd, num(1), num(1))), ifs(num(1), list(none()), list(none())), {Kind: api.SFor, Init: list(setAt("x", num(1), num(1)))}},
		7: {{Kind: api.SFor, Init: list(set("x", num(1))), Has: true, X: num(1), Step: list(set("x", num(1))), Body: list(none())}},
	} {
		for _, s := range stats {
			hasNodes(t, body(s), 1+n)
			hasNodes(t, body(none(), s, none()), 3+n)
		}
	}
	hasNodes(t, wholeProgram(), 41)
	// What is not looked at is not counted.
	hasNodes(t, body(api.Stat{Kind: api.SReturn, X: two(api.CAdd, num(1), num(2))}), 2)
	hasNodes(t, body(api.Stat{Kind: api.SSet, Name: "x", I: num(1), X: num(2)}), 3)
	hasNodes(t, body(api.Stat{Kind: api.SWhile, X: num(2), Else: list(none(), none())}), 3)
}

func TestHowManyNodes(t *testing.T) {
	fills := []func(n int) api.Program{
		// Variables alone.
		func(n int) api.Program {
			l := make([]api.Global, n)
			for i := range l {
				l[i] = api.Global{Type: i16t, Name: "x"}
			}
			return globals(l...)
		},
		// Statements of one function.
		func(n int) api.Program { return body(manyNone(n - 1)...) },
		// Expressions of an array, and of others.
		func(n int) api.Program {
			return globals(api.Global{Type: u8t, Name: "a", Size: 8000, Init: manyNums(8000)}, api.Global{Type: u8t, Name: "a", Size: 8000, Init: manyNums(8000)}, api.Global{Type: u8t, Name: "a", Size: 8000, Init: manyNums(n - 16003)})
		},
		// A function as the last one.
		func(n int) api.Program {
			return funcs(api.Func{Name: "f", Body: manyNone(n - 2)}, api.Func{Name: "g"})
		},
		// Statements within others.
		func(n int) api.Program {
			half := (n - 5) / 2
			return body(ifs(num(1), manyNone(half), nil), block(manyNone(n-4-half)...))
		},
		// Kids.
		func(n int) api.Program {
			l := make([]api.Stat, 0, n/3)
			for len(l)*3+1+3 <= n {
				l = append(l, expr(one(api.CNeg, num(1))))
			}
			return body(append(l, manyNone(n-1-3*len(l))...)...)
		},
	}
	for i, fill := range fills {
		for _, n := range []int{api.MaxNodes - 1, api.MaxNodes} {
			if p := fill(n); Wrong(p) != api.OK || Nodes(p) != n {
				t.Errorf("fill %d, %d nodes: %d, %d comes", i, n, Wrong(p), Nodes(p))
			}
		}
		for _, n := range []int{api.MaxNodes + 1, api.MaxNodes + 2} {
			if p := fill(n); Wrong(p) != api.ErrMuch || Nodes(p) < 0 {
				t.Errorf("fill %d, %d nodes: %d, %d comes", i, n, Wrong(p), Nodes(p))
			}
		}
	}
}

func manyNone(n int) []api.Stat {
	out := make([]api.Stat, n)
	for i := range out {
		out[i] = none()
	}
	return out
}

// What is wrong with the last node is told ahead of what is wrong with one too many, and that there are too many ahead of what is wrong with that one.
func TestManyNodesAheadOfOthers(t *testing.T) {
	full := manyNone(api.MaxNodes)
	full[api.MaxNodes-2].Kind = 0
	isWrong(t, body(full...), api.ErrKind)
	full[api.MaxNodes-2].Kind = api.SNone
	full[api.MaxNodes-1].Kind = 0
	isWrong(t, body(full...), api.ErrMuch)
	full[api.MaxNodes-2] = expr(bad)
	isWrong(t, body(full...), api.ErrMuch)
	// A variable and a function are looked at before they are counted.
	l := make([]api.Global, api.MaxNodes+1)
	for i := range l {
		l[i] = api.Global{Type: i16t, Name: "x"}
	}
	isWrong(t, globals(l...), api.ErrMuch)
	l[api.MaxNodes] = api.Global{Type: i16t, Name: "x", Init: manyNums(2)}
	isWrong(t, globals(l...), api.ErrMany)
	l[api.MaxNodes] = api.Global{Type: i16t, Name: "x", Init: []api.Expr{bad}}
	isWrong(t, globals(l...), api.ErrMuch)
	isWrong(t, api.Program{Globals: l[:api.MaxNodes], Funcs: []api.Func{{Name: "f", Params: []api.Param{{Type: i16t}}}}}, api.ErrName)
	isWrong(t, api.Program{Globals: l[:api.MaxNodes], Funcs: []api.Func{{Name: "f", Body: list(api.Stat{})}}}, api.ErrMuch)
	isWrong(t, api.Program{Globals: l[:api.MaxNodes-1], Funcs: []api.Func{{Name: "f"}}}, api.OK)
	isWrong(t, api.Program{Globals: l[:api.MaxNodes-1], Funcs: []api.Func{{Name: "f", Body: list(none())}}}, api.ErrMuch)
}

// deepStats nest a statement in another one.
func deepStats() []func(s api.Stat) api.Stat {
	return []func(s api.Stat) api.Stat{
		func(s api.Stat) api.Stat { return block(s) },
		func(s api.Stat) api.Stat { return block(none(), s, none()) },
		func(s api.Stat) api.Stat { return ifs(num(1), list(s), nil) },
		func(s api.Stat) api.Stat { return ifs(num(1), nil, list(s)) },
		func(s api.Stat) api.Stat { return while(num(1), s) },
		func(s api.Stat) api.Stat { return api.Stat{Kind: api.SFor, Body: list(s)} },
	}
}

func TestHowDeepStatements(t *testing.T) {
	nest := func(around func(s api.Stat) api.Stat, s api.Stat, n int) api.Program {
		for range n {
			s = around(s)
		}
		return body(s)
	}
	// A statement in a function is at depth 2.
	const most = api.MaxShape - 2
	for _, around := range deepStats() {
		isWrong(t, nest(around, none(), most), api.OK)
		isWrong(t, nest(around, none(), most+1), api.ErrMuch)
		isWrong(t, nest(around, api.Stat{}, most), api.ErrKind)
		isWrong(t, nest(around, api.Stat{}, most+1), api.ErrMuch)
		for _, s := range []api.Stat{expr(num(1)), retOf(num(1)), declAs(u8t, "x", num(1)), set("x", num(1)), setAt("x", num(1), num(1)), while(num(1)), ifs(num(1), nil, nil), {Kind: api.SFor, Has: true, X: num(1)}, block(none())} {
			isWrong(t, nest(around, s, most-1), api.OK)
			isWrong(t, nest(around, s, most), api.ErrMuch)
		}
		for _, s := range []api.Stat{{Kind: api.SFor, Init: list(expr(num(1)))}, {Kind: api.SFor, Step: list(set("x", num(1)))}, expr(one(api.CNot, num(1))), block(block(none()))} {
			isWrong(t, nest(around, s, most-2), api.OK)
			isWrong(t, nest(around, s, most-1), api.ErrMuch)
		}
		// A name is told ahead of what is too deep behind it, and that it does not fit, too.
		isWrong(t, nest(around, set("if", num(1)), most), api.ErrName)
		isWrong(t, nest(around, api.Stat{Kind: api.SFor, Init: list(none())}, most), api.ErrFit)
		isWrong(t, nest(around, api.Stat{Kind: api.SFor, Step: list(none(), none())}, most), api.ErrMany)
	}
}

func TestHowDeepExpressions(t *testing.T) {
	for _, kid := range kidPlaces()[1:] {
		nest := func(x api.Expr, n int) api.Expr {
			for range n {
				x = kid(x)
			}
			return x
		}
		each := 1
		if x := nest(num(1), 1); x.Kind == api.CCall && len(x.Kids) == 3 {
			each = 2
		}
		// An expression of a variable is at depth 2, one of a statement of a function at depth 3.
		for _, in := range []struct {
			depth int
			at    func(x api.Expr) api.Program
		}{{2, exprPlaces()[0]}, {2, exprPlaces()[1]}, {3, exprPlaces()[2]}, {3, exprPlaces()[7]}, {4, exprPlaces()[14]}, {4, exprPlaces()[18]}, {5, exprPlaces()[19]}} {
			most := (api.MaxShape - in.depth) / each
			isWrong(t, in.at(nest(num(1), most)), api.OK)
			isWrong(t, in.at(nest(num(1), most+1)), api.ErrMuch)
			isWrong(t, in.at(nest(bad, most)), api.ErrKind)
			isWrong(t, in.at(nest(bad, most+1)), api.ErrMuch)
		}
	}
}

// TestNoEnd has programs that are parts of themselves, or so great that nobody comes to their end.
func TestNoEnd(t *testing.T) {
	kids := []api.Expr{{Kind: api.CNeg}}
	kids[0].Kids = kids
	isWrong(t, body(expr(kids[0])), api.ErrMuch)
	two1 := []api.Expr{{Kind: api.CAdd}, {Kind: api.CAdd}}
	two1[0].Kids, two1[1].Kids = two1, two1
	isWrong(t, body(expr(two1[0])), api.ErrMuch)
	stats := []api.Stat{{Kind: api.SBlock}, {Kind: api.SBlock}}
	stats[0].Body, stats[1].Body = stats, stats
	isWrong(t, body(stats...), api.ErrMuch)
	// Twice as many nodes with each level.
	x := num(1)
	for range 90 {
		x = two(api.CAdd, x, x)
	}
	isWrong(t, body(expr(x)), api.ErrMuch)
	s := none()
	for range 90 {
		s = block(s, s)
	}
	isWrong(t, body(s), api.ErrMuch)
	// Deeper than any program may be.
	x = num(1)
	for range 60000 {
		x = one(api.CNeg, x)
	}
	isWrong(t, body(expr(x)), api.ErrMuch)
}
