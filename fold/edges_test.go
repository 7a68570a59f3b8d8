package fold

import (
	"fmt"
	"math/rand"
	"reflect"
	"sync"
	"testing"

	"pairlegal/api"
	"pairlegal/source"
)

// Z1 to Z4

// The roomy ones are the same with spare room behind each list that a kind has, in which there is something that would be wrong.

func roomyExprs(l []api.Expr) []api.Expr {
	out := make([]api.Expr, 0, len(l)+2)
	for _, x := range l {
		out = append(out, roomyExpr(x))
	}
	return append(out, api.Expr{Name: "spare"})[:len(l)]
}

func roomyExpr(x api.Expr) api.Expr {
	x.Kids = roomyExprs(x.Kids)
	return x
}

func roomyBlock(l []api.Stat) []api.Stat {
	out := make([]api.Stat, 0, len(l)+2)
	for _, s := range l {
		if s.X.Kind != 0 {
			s.X = roomyExpr(s.X)
		}
		if s.I.Kind != 0 {
			s.I = roomyExpr(s.I)
		}
		switch s.Kind {
		case api.SIf:
			s.Body, s.Else = roomyBlock(s.Body), roomyBlock(s.Else)
		case api.SWhile, api.SBlock:
			s.Body = roomyBlock(s.Body)
		case api.SFor:
			s.Init, s.Step, s.Body = roomyBlock(s.Init), roomyBlock(s.Step), roomyBlock(s.Body)
		}
		out = append(out, s)
	}
	return append(out, api.Stat{Name: "spare"})[:len(l)]
}

func roomy(p api.Program) api.Program {
	out := api.Program{Globals: make([]api.Global, 0, len(p.Globals)+1), Funcs: make([]api.Func, 0, len(p.Funcs)+1)}
	for _, g := range p.Globals {
		g.Init = roomyExprs(g.Init)
		out.Globals = append(out.Globals, g)
	}
	for _, f := range p.Funcs {
		f.Params = append(append(make([]api.Param, 0, len(f.Params)+2), f.Params...), api.Param{Name: "spare"})[:len(f.Params)]
		f.Body = roomyBlock(f.Body)
		out.Funcs = append(out.Funcs, f)
	}
	return out
}

// walk calls do with each list in v.
func walk(v reflect.Value, do func(reflect.Value)) {
	switch v.Kind() {
	case reflect.Slice:
		do(v)
		for i := range v.Len() {
			walk(v.Index(i), do)
		}
	case reflect.Struct:
		for i := range v.NumField() {
			walk(v.Field(i), do)
		}
	}
}

// whole tells all lists of something, with their spare room.
func whole(x any) string {
	out := ""
	walk(reflect.ValueOf(x), func(l reflect.Value) {
		out += fmt.Sprintf("%+v\n", l.Slice3(0, l.Cap(), l.Cap()))
	})
	return out
}

// spoil overwrites all lists of something, with their spare room; they are gathered first, for some stand in others.
func spoil(x any) {
	var lists []reflect.Value
	walk(reflect.ValueOf(x), func(l reflect.Value) { lists = append(lists, l.Slice3(0, l.Cap(), l.Cap())) })
	for _, l := range lists {
		for i := range l.Len() {
			l.Index(i).SetZero()
		}
	}
}

func TestProgramOnlyReads(t *testing.T) {
	for seed := range int64(60) {
		p := roomy((&maker{Rand: rand.New(rand.NewSource(seed))}).program())
		ahead := whole(p)
		out, f := Program(p)
		if f != (api.Fault{}) || whole(p) != ahead {
			t.Fatalf("%v, and a program was changed:\n%s", f, toldProgram(p))
		}
		// What comes is the caller's, who may change it, and so is what was handed in.
		got := toldProgram(out)
		again, _ := Program(p)
		spoil(again)
		if whole(p) != ahead || toldProgram(out) != got {
			t.Fatalf("what came is a part of what was handed in:\n%s", toldProgram(p))
		}
		spoil(p)
		if toldProgram(out) != got {
			t.Fatalf("what was handed in is a part of what came:\n%s", got)
		}
	}
}

func TestExprOnlyReads(t *testing.T) {
	m := &maker{Rand: rand.New(rand.NewSource(4)), locals: []string{"a", "b"}}
	for range 2000 {
		x := roomyExpr(m.expr(5, 6))
		ahead := whole(x)
		out := Expr(x)
		got := told(out)
		spoil(Expr(x))
		if whole(x) != ahead || told(out) != got {
			t.Fatalf("what was handed in is changed: %s", told(x))
		}
		spoil(x)
		if told(out) != got {
			t.Fatalf("what was handed in is a part of what came: %s", got)
		}
	}
}

// TestPartsOfAnAnswer: no two of its lists are the same memory, though parts of what was handed in are.
func TestPartsOfAnAnswer(t *testing.T) {
	x := two(api.CAdd, name("g"), at("a", two(api.CAdd, num(1), num(2))))
	block := list(api.Stat{Kind: api.SSet, Name: "g", X: x}, expr(x), api.Stat{Kind: api.SIf, X: num(1), Body: list(expr(x))})
	body := list(api.Stat{Kind: api.SIf, X: x, Body: block, Else: block}, api.Stat{Kind: api.SFor, Init: block[:1], Step: block[:1], Body: block}, api.Stat{Kind: api.SBlock, Body: block})
	params := []api.Param{{Type: i16t, Name: "p"}}
	p := api.Program{
		Globals: []api.Global{{Type: i16t, Name: "g", Init: []api.Expr{num(1)}}, {Type: i16t, Name: "a", Size: 5}},
		Funcs:   []api.Func{{Name: "f", Params: params, Body: body}, {Name: "h", Params: params, Body: body}, {Name: "main", Body: body}},
	}
	agrees(t, p)
	out, _ := Program(p)
	seen := map[uintptr]bool{}
	walk(reflect.ValueOf(out), func(l reflect.Value) {
		if l.Len() == 0 {
			return
		}
		if seen[l.Pointer()] {
			t.Errorf("two lists are the same: %+v", l)
		}
		seen[l.Pointer()] = true
	})
}

// TestNilIsEmpty: a list without entries is the same as none.
func TestNilIsEmpty(t *testing.T) {
	empty := func(s api.Stat) api.Stat {
		s.Init, s.Step, s.Body, s.Else = []api.Stat{}, []api.Stat{}, []api.Stat{}, []api.Stat{}
		s.X.Kids, s.I.Kids = []api.Expr{}, []api.Expr{}
		return s
	}
	for _, s := range []api.Stat{none(), {Kind: api.SDecl, Type: i16t, Name: "x"}, expr(num(1)), expr(call("get")), {Kind: api.SReturn}, {Kind: api.SIf, X: num(1)}, {Kind: api.SIf, X: num(0)}, {Kind: api.SWhile, X: num(1)}, {Kind: api.SWhile, X: num(0)}, {Kind: api.SFor}, {Kind: api.SBlock}} {
		want, f := Program(api.Program{Funcs: []api.Func{mainOf(s)}})
		m := mainOf(empty(s))
		m.Params = []api.Param{}
		got, g := Program(api.Program{Globals: []api.Global{}, Funcs: []api.Func{m}})
		if f != (api.Fault{}) || g != (api.Fault{}) || !reflect.DeepEqual(bareProgram(got), bareProgram(want)) {
			t.Errorf("%+v, %v comes, not %+v, %v", got, g, want, f)
		}
	}
	if _, f := Program(api.Program{Globals: []api.Global{}, Funcs: []api.Func{}}); f != (api.Fault{Err: api.ErrNone}) {
		t.Errorf("%v comes", f)
	}
	becomes(t, one(api.CNeg, api.Expr{Kind: api.CNum, N: 1, Type: i16t, Kids: []api.Expr{}}), written(65535, i16t))
	becomes(t, api.Expr{Kind: api.CVar, Name: "a", Kids: []api.Expr{}}, name("a"))
	becomes(t, api.Expr{Kind: api.CCall, Name: "f", Kids: []api.Expr{}}, call("f"))
}

// TestTheGreatestPrograms: as many nodes as there may be, as deep as they may be.
func TestTheGreatestPrograms(t *testing.T) {
	many := mainOf()
	for range (api.MaxNodes - 1) / 2 {
		many.Body = append(many.Body, expr(num(1)))
	}
	agrees(t, api.Program{Funcs: []api.Func{many}})
	for _, s := range []api.Stat{{Kind: api.SIf, X: num(1)}, {Kind: api.SIf, X: name("g")}, {Kind: api.SBlock}, {Kind: api.SFor}, {Kind: api.SWhile, X: two(api.CSub, num(2), num(1))}} {
		inner := none()
		for range api.MaxShape - 4 {
			s.Body = list(inner)
			inner = s
		}
		agrees(t, api.Program{Globals: []api.Global{{Type: i16t, Name: "g"}}, Funcs: []api.Func{mainOf(inner)}})
	}
}

// TestSideBySide: many work on one program at once, and each one gets the same.
func TestSideBySide(t *testing.T) {
	var programs []api.Program
	var want []string
	for seed := range int64(40) {
		p := (&maker{Rand: rand.New(rand.NewSource(seed))}).program()
		out, _ := Program(p)
		programs, want = append(programs, p), append(want, toldProgram(out))
	}
	var done sync.WaitGroup
	for k := range 16 {
		done.Add(1)
		go func() {
			defer done.Done()
			for i := range programs {
				at := (i + k*7) % len(programs)
				if out, _ := Program(programs[at]); toldProgram(out) != want[at] {
					t.Errorf("\n%scomes, not\n%s", toldProgram(out), want[at])
				}
			}
		}()
	}
	done.Wait()
}

func FuzzProgram(f *testing.F) {
	for _, text := range []string{
		around + "void main() { if (1) { x = 1 + 1; } else if (x) { while (0) { } } for (; 2 - 2;) { a[x] = (u8)300; } }", "i64 g = -9223372036854775807 - 1; i16 main() { return g / -1 == g; }", "i16 x = 1 / 0;", "void main() { 1 / 0 && 3 % (u8)256; -32768; !0u; }",
	} {
		f.Add(text)
	}
	f.Fuzz(func(t *testing.T, text string) {
		if p, fault := source.Read(text); fault.Err == api.OK {
			agrees(t, p)
		}
	})
}
