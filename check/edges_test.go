package check

import (
	"fmt"
	"math/rand"
	"sync"
	"testing"

	"pairlegal/api"
	"pairlegal/source"
)

// Z1 to Z3

// TestProgramsWithoutEnd: they are wrong, and Check comes back.
func TestProgramsWithoutEnd(t *testing.T) {
	for _, kind := range []int{api.CNeg, api.CCast} {
		x := endless(kind, 1)
		answers(t, api.Program{Globals: []api.Global{{Type: i16t, Name: "x", Init: []api.Expr{x}}}}, api.ErrMuch, 0)
		answers(t, api.Program{Funcs: []api.Func{mainOf(expr(x))}}, api.ErrMuch, 0)
	}
	for _, kind := range []int{api.SBlock, api.SWhile, api.SIf, api.SFor} {
		l := make([]api.Stat, 1)
		l[0] = api.Stat{Kind: kind, X: num(1), Body: l, Else: l}
		answers(t, api.Program{Funcs: []api.Func{mainOf(l...)}}, api.ErrMuch, 0)
	}
	wide := num(1)
	for range 90 {
		wide = two(api.CAdd, wide, wide)
	}
	answers(t, api.Program{Funcs: []api.Func{mainOf(expr(wide))}}, api.ErrMuch, 0)
	answers(t, api.Program{Globals: make([]api.Global, 1<<16)}, api.ErrType, 0)
	answers(t, api.Program{Funcs: make([]api.Func, 1<<16)}, api.ErrMany, 0)
}

// TestTheGreatestPrograms: as many nodes as there may be, as deep as they may be.
func TestTheGreatestPrograms(t *testing.T) {
	many := mainOf()
	for range (api.MaxNodes - 1) / 2 {
		many.Body = append(many.Body, expr(num(1)))
	}
	answers(t, api.Program{Funcs: []api.Func{many}}, api.OK, 0)
	many.Body[len(many.Body)-1].X = name("nothing")
	answers(t, api.Program{Funcs: []api.Func{many}}, api.ErrName, 0)
	for range 2 {
		many.Body = append(many.Body, none())
	}
	answers(t, api.Program{Funcs: []api.Func{many}}, api.ErrMuch, 0)

	deep := func(levels int, inner api.Stat) api.Program {
		for range levels {
			inner = api.Stat{Kind: api.SBlock, Body: list(inner)}
		}
		return api.Program{Funcs: []api.Func{mainOf(inner)}}
	}
	answers(t, deep(api.MaxShape-2, none()), api.OK, 0)
	answers(t, deep(api.MaxShape-2, api.Stat{Kind: api.SBreak}), api.ErrFit, 0)
	answers(t, deep(api.MaxShape-3, expr(name("nothing"))), api.ErrName, 0)
	answers(t, deep(api.MaxShape-2, expr(name("nothing"))), api.ErrMuch, 0)
	answers(t, deep(api.MaxShape-1, none()), api.ErrMuch, 0)
}

// TestNilIsEmpty: a list without entries is the same as none.
func TestNilIsEmpty(t *testing.T) {
	empty := func(s api.Stat) api.Stat {
		s.Init, s.Step, s.Body, s.Else = []api.Stat{}, []api.Stat{}, []api.Stat{}, []api.Stat{}
		s.X.Kids, s.I.Kids = []api.Expr{}, []api.Expr{}
		return s
	}
	for _, s := range []api.Stat{none(), decl(i16t, "x"), expr(num(1)), expr(call("get")), {Kind: api.SReturn}, {Kind: api.SIf, X: num(1)}, {Kind: api.SWhile, X: num(1)}, {Kind: api.SFor}, {Kind: api.SBlock}} {
		answers(t, api.Program{Funcs: []api.Func{mainOf(s)}}, api.OK, 0)
		f := mainOf(empty(s))
		f.Params = []api.Param{}
		answers(t, api.Program{Globals: []api.Global{}, Funcs: []api.Func{f}}, api.OK, 0)
	}
	answers(t, api.Program{Globals: []api.Global{}, Funcs: []api.Func{}}, api.ErrNone, 0)
	answers(t, api.Program{Globals: []api.Global{{Type: i16t, Name: "x", Init: []api.Expr{}}}, Funcs: []api.Func{{Name: "main", Body: []api.Stat{}}}}, api.OK, 0)
	if n, is, err := Const(api.Expr{Kind: api.CNum, N: 5, Type: i16t, Kids: []api.Expr{}}); n != 5 || is != i16t || err != api.OK {
		t.Errorf("%d of %v, %d comes", n, is, err)
	}
}

// roomy is the same program with spare room behind its lists, in which there is something that would be wrong.
func roomy(p api.Program) api.Program {
	p.Globals = append(append(make([]api.Global, 0, len(p.Globals)+3), p.Globals...), api.Global{Name: "put"}, api.Global{Name: "x"})[:len(p.Globals)]
	p.Funcs = append(append(make([]api.Func, 0, len(p.Funcs)+3), p.Funcs...), api.Func{Name: "put"}, mainOf())[:len(p.Funcs)]
	for i := range p.Globals {
		l := p.Globals[i].Init
		p.Globals[i].Init = append(append(make([]api.Expr, 0, len(l)+2), l...), name("x"))[:len(l)]
	}
	for i := range p.Funcs {
		f := &p.Funcs[i]
		f.Params = append(append(make([]api.Param, 0, len(f.Params)+2), f.Params...), api.Param{Name: "x"})[:len(f.Params)]
		f.Body = append(append(make([]api.Stat, 0, len(f.Body)+2), f.Body...), api.Stat{Kind: api.SBreak})[:len(f.Body)]
	}
	return p
}

// whole tells a program with all that stands in its spare room.
func whole(p api.Program) string {
	out := fmt.Sprintf("%+v %+v", p.Globals[:cap(p.Globals)], p.Funcs[:cap(p.Funcs)])
	for _, g := range p.Globals {
		out += fmt.Sprintf("%+v", g.Init[:cap(g.Init)])
	}
	for _, f := range p.Funcs {
		out += fmt.Sprintf("%+v %+v", f.Params[:cap(f.Params)], f.Body[:cap(f.Body)])
	}
	return out
}

func TestCheckOnlyReads(t *testing.T) {
	for seed := range int64(400) {
		m := &maker{Rand: rand.New(rand.NewSource(seed)), slip: []int{20, 1 << 30}[seed%2]}
		p := m.program()
		want := Check(p)
		p = roomy(p)
		ahead := whole(p)
		answers(t, p, want.Err, want.At)
		if whole(p) != ahead {
			t.Fatalf("a program was changed:\n%s", told(p))
		}
		answers(t, p, want.Err, want.At)
	}
}

// TestSharedParts: parts of a program may be the same memory.
func TestSharedParts(t *testing.T) {
	x := two(api.CAdd, name("g"), call("get"))
	block := list(api.Stat{Kind: api.SSet, Name: "g", X: x}, expr(x))
	f := api.Func{Name: "f", Body: list(api.Stat{Kind: api.SIf, X: x, Body: block, Else: block}, api.Stat{Kind: api.SWhile, X: x, Body: block})}
	g := f
	g.Name = "main"
	p := api.Program{Globals: []api.Global{{Type: i16t, Name: "g"}}, Funcs: []api.Func{f, g}}
	answers(t, p, api.OK, 0)
	block[1] = decl(i16t, "x")
	answers(t, p, api.ErrName, 1)
	block[1] = expr(name("x"))
	answers(t, p, api.ErrName, 1)
	block[1] = none()
	answers(t, p, api.OK, 0)
}

// TestSideBySide: many look at one program at once, and each one gets the same.
func TestSideBySide(t *testing.T) {
	var programs []api.Program
	var want []api.Fault
	for seed := range int64(60) {
		m := &maker{Rand: rand.New(rand.NewSource(seed)), slip: 30}
		programs = append(programs, m.program())
		want = append(want, Check(programs[seed]))
	}
	x := readExpr(t, "(u8)300 * -7 + (1 << 3)")
	var done sync.WaitGroup
	for k := range 16 {
		done.Add(1)
		go func() {
			defer done.Done()
			for i := range programs {
				at := (i + k*7) % len(programs)
				if got := Check(programs[at]); got != want[at] {
					t.Errorf("%v comes, not %v", got, want[at])
				}
				if n, is, err := Const(x); n != 65236 || is != i16t || err != api.OK {
					t.Errorf("%d of %v, %d comes", n, is, err)
				}
			}
		}()
	}
	done.Wait()
}

func FuzzCheck(f *testing.F) {
	for _, text := range []string{wide, around + "void main() { }", "void main() { " + parts[8] + " }", "i16 x = 1 / 0;", "u8 a[3] = {1, -2}; void main() { i16 a = a[1]; { a; } break; }", "i64 a[2000]; i16 main(i16 a) { return f(a); }"} {
		f.Add(text)
	}
	f.Fuzz(func(t *testing.T, text string) {
		p, fault := source.Read(text)
		if fault.Err != api.OK {
			return
		}
		want := judged(p)
		answers(t, p, want.Err, want.At)
	})
}
