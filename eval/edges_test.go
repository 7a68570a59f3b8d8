package eval

import (
	"fmt"
	"math/rand"
	"reflect"
	"sync"
	"testing"

	"pairlegal/api"
	"pairlegal/check"
	"pairlegal/source"
)

// Z1 to Z5

// The roomy ones are the same with spare room behind each list, in which there is something that would be wrong.

func roomyExprs(l []api.Expr) []api.Expr {
	out := make([]api.Expr, 0, len(l)+2)
	for _, x := range l {
		x.Kids = roomyExprs(x.Kids)
		out = append(out, x)
	}
	return append(out, api.Expr{Name: "spare"})[:len(l)]
}

func roomyBlock(l []api.Stat) []api.Stat {
	out := make([]api.Stat, 0, len(l)+2)
	for _, s := range l {
		s.X.Kids, s.I.Kids = roomyExprs(s.X.Kids), roomyExprs(s.I.Kids)
		s.Init, s.Step, s.Body, s.Else = roomyBlock(s.Init), roomyBlock(s.Step), roomyBlock(s.Body), roomyBlock(s.Else)
		out = append(out, s)
	}
	return append(out, api.Stat{Name: "spare"})[:len(l)]
}

func roomy(p api.Program) api.Program {
	out := api.Program{Globals: make([]api.Global, 0, len(p.Globals)+1), Funcs: make([]api.Func, 0, len(p.Funcs)+1)}
	for _, g := range p.Globals {
		g.Init = roomyExprs(g.Init)
		out.Globals = append(out.Globals, g)
	}
	for _, f := range p.Funcs {
		f.Params = append(append(make([]api.Param, 0, len(f.Params)+2), f.Params...), api.Param{Name: "spare"})[:len(f.Params)]
		f.Body = roomyBlock(f.Body)
		out.Funcs = append(out.Funcs, f)
	}
	return out
}

// walk calls do with each list in v.
func walk(v reflect.Value, do func(reflect.Value)) {
	switch v.Kind() {
	case reflect.Slice:
		do(v)
		for i := range v.Len() {
			walk(v.Index(i), do)
		}
	case reflect.Struct:
		for i := range v.NumField() {
			walk(v.Field(i), do)
		}
	}
}

// whole tells all lists of something, with their spare room.
func whole(x any) string {
	out := ""
	walk(reflect.ValueOf(x), func(l reflect.Value) {
		out += fmt.Sprintf("%+v\n", l.Slice3(0, l.Cap(), l.Cap()))
	})
	return out
}

// spoil overwrites all lists of something, with their spare room; they are gathered first, for some stand in others.
func spoil(x any) {
	var lists []reflect.Value
	walk(reflect.ValueOf(x), func(l reflect.Value) { lists = append(lists, l.Slice3(0, l.Cap(), l.Cap())) })
	for _, l := range lists {
		for i := range l.Len() {
			l.Index(i).SetZero()
		}
	}
}

// TestRunOnlyReads: nothing that is handed in is changed or kept, and its spare room is not looked at.
func TestRunOnlyReads(t *testing.T) {
	for seed := range int64(40) {
		m := &maker{Rand: rand.New(rand.NewSource(seed))}
		p, input := m.program(), append([]byte(m.input()), "spare"...)
		input = input[:len(input)-5]
		want, _ := Run(p, []byte(string(input)), 500)
		p = roomy(p)
		ahead, bytesAhead := whole(p), whole(input)
		got, f := Run(p, input, 500)
		if f != (api.Fault{}) || !reflect.DeepEqual(got, want) {
			t.Fatalf("%+v, %v comes, not %+v, of\n%s", got, f, want, shown(p))
		}
		if whole(p) != ahead || whole(input) != bytesAhead {
			t.Fatalf("what was handed in is changed:\n%s", shown(p))
		}
		// What comes is the caller's, and so is what was handed in.
		again, _ := Run(p, input, 500)
		spoil(again)
		if whole(p) != ahead || whole(input) != bytesAhead || !reflect.DeepEqual(got, want) {
			t.Fatalf("what came is a part of something else:\n%s", shown(p))
		}
		spoil(p)
		spoil(input)
		if !reflect.DeepEqual(got, want) {
			t.Fatalf("what was handed in is a part of what came: %+v", got)
		}
	}
}

// TestTheInputComesBack: what is told of what comes in is new memory.
func TestTheInputComesBack(t *testing.T) {
	input := []byte("abc")
	p := read(t, echo)
	got, _ := Run(p, input, enough)
	input[0] = 'x'
	if string(got.Output) != "abc" {
		t.Errorf("%q comes", got.Output)
	}
	got.Output[1] = 'y'
	if string(input) != "xbc" {
		t.Errorf("%q was handed in", input)
	}
}

// TestRunsKeepNothing: variables of all are as they were at first, whenever a run begins.
func TestRunsKeepNothing(t *testing.T) {
	p := read(t, "i16 x = 5; u8 a[3] = {1, 2}; i16 main() { x = x + 1; a[0] = a[0] + 1; a[2] = a[2] + a[1]; put(x); put(a[0]); put(a[2]); get(); return x; }")
	for range 3 {
		runs(t, p, "ab", enough, api.Told{How: api.RanHalt, Output: []byte{6, 2, 2}, Read: 1, Ticks: 32, Result: 6})
		for limit := range 32 {
			Run(p, []byte("ab"), limit)
		}
	}
}

// TestNilIsEmpty: a list without entries is the same as none.
func TestNilIsEmpty(t *testing.T) {
	empty := func(s api.Stat) api.Stat {
		s.Init, s.Step, s.Body, s.Else = []api.Stat{}, []api.Stat{}, []api.Stat{}, []api.Stat{}
		s.X.Kids, s.I.Kids = []api.Expr{}, []api.Expr{}
		return s
	}
	for _, s := range []api.Stat{none(), {Kind: api.SDecl, Type: i16t, Name: "x"}, expr(num(1)), expr(call("get")), {Kind: api.SReturn}, {Kind: api.SIf, X: num(1)}, {Kind: api.SIf, X: num(0)}, {Kind: api.SWhile, X: num(1)}, {Kind: api.SWhile, X: num(0)}, {Kind: api.SFor}, {Kind: api.SBlock}} {
		want, f := Run(api.Program{Funcs: []api.Func{mainOf(s)}}, nil, 20)
		m := mainOf(empty(s))
		m.Params = []api.Param{}
		got, g := Run(api.Program{Globals: []api.Global{}, Funcs: []api.Func{m}}, []byte{}, 20)
		if f != (api.Fault{}) || g != (api.Fault{}) || !reflect.DeepEqual(plain(got), plain(want)) {
			t.Errorf("%+v, %v comes, not %+v, %v", got, g, want, f)
		}
	}
	refuses(t, api.Program{Globals: []api.Global{}, Funcs: []api.Func{}}, []byte{}, 5, api.Fault{Err: api.ErrNone})
	array := api.Global{Type: i16t, Name: "a", Size: 2, Init: []api.Expr{}}
	runs(t, answering(at("a", num(1)), array), "", 9, api.Told{How: api.RanHalt, Ticks: 3})
}

// littered is a program with something in all fields that its kinds have not.
func littered(l []api.Stat) (out []api.Stat) {
	junk := list(put(num(99)), api.Stat{Kind: 77})
	for _, s := range l {
		switch s.Kind {
		case api.SIf:
			s.Body, s.Else = littered(s.Body), littered(s.Else)
		case api.SFor:
			s.Init, s.Step, s.Body, s.Else = littered(s.Init), littered(s.Step), littered(s.Body), junk
		case api.SWhile, api.SBlock:
			s.Body, s.Else = littered(s.Body), junk
		default:
			s.Body, s.Else = junk, junk
		}
		if s.Kind != api.SFor {
			s.Init, s.Step = junk, junk
		}
		switch s.Kind {
		case api.SNone, api.SExpr, api.SIf, api.SWhile, api.SBreak, api.SContinue, api.SBlock:
			s.Has = !s.Has
		}
		s.X, s.I = litteredExpr(s.X), litteredExpr(s.I)
		if s.Kind != api.SDecl {
			s.Type = u8t
		}
		if s.Kind != api.SDecl && s.Kind != api.SSet {
			s.Name = "one"
		}
		out = append(out, s)
	}
	return out
}

// litteredExpr is so; one that is not there becomes a call that would tell something.
func litteredExpr(x api.Expr) api.Expr {
	if x.Kind == 0 {
		return call("put", num(98))
	}
	x.Kids = append([]api.Expr(nil), x.Kids...)
	for i, kid := range x.Kids {
		x.Kids[i] = litteredExpr(kid)
	}
	if x.Kind != api.CNum {
		x.N = 97
		if x.Kind != api.CCast {
			x.Type = u64t
		}
	}
	if x.Kind != api.CVar && x.Kind != api.CAt && x.Kind != api.CCall {
		x.Name = "two"
	}
	return x
}

// TestOtherFields: what a kind has not means nothing.
func TestOtherFields(t *testing.T) {
	for seed := range int64(300) {
		m := &maker{Rand: rand.New(rand.NewSource(seed))}
		p, input := m.program(), []byte(m.input())
		want, _ := Run(p, input, 500)
		for i := range p.Funcs {
			p.Funcs[i].Body = littered(p.Funcs[i].Body)
		}
		got, f := Run(p, input, 500)
		if f != (api.Fault{}) || !reflect.DeepEqual(got, want) {
			t.Fatalf("%+v, %v comes, not %+v, of\n%s", got, f, want, shown(p))
		}
	}
}

// TestPartsThatAreShared: a part that stands at many places means at each what it means there.
func TestPartsThatAreShared(t *testing.T) {
	block := list(api.Stat{Kind: api.SSet, Name: "x", X: two(api.CAdd, name("x"), num(1))}, put(name("x")))
	own := append(list(api.Stat{Kind: api.SDecl, Type: u8t, Name: "x", Has: true, X: num(200)}), block...)
	p := api.Program{Globals: []api.Global{{Type: i16t, Name: "x"}}, Funcs: []api.Func{
		{Name: "f", Params: []api.Param{{Type: i8t, Name: "x"}}, Body: block}, mainOf(append(block, api.Stat{Kind: api.SBlock, Body: own}, expr(call("f", num(100))), api.Stat{Kind: api.SIf, X: num(1), Body: block, Else: block})...),
	}}
	got, f := Run(p, nil, enough)
	if f != (api.Fault{}) || string(got.Output) != "\x01\xc9\x65\x02" {
		t.Errorf("%+v, %v comes", got, f)
	}
}

// TestTheGreatestPrograms: as many nodes as there may be, as deep as they may be, in as many calls.
func TestTheGreatestPrograms(t *testing.T) {
	long := mainOf()
	for range (api.MaxNodes - 1) / 2 {
		long.Body = append(long.Body, expr(num(1)))
	}
	runs(t, api.Program{Funcs: []api.Func{long}}, "", enough, api.Told{How: api.RanHalt, Ticks: api.MaxNodes - 2})
	for _, s := range []api.Stat{{Kind: api.SIf, X: num(1)}, {Kind: api.SBlock}, {Kind: api.SFor}, {Kind: api.SWhile, X: num(1)}} {
		inner := list(expr(call("f")), api.Stat{Kind: api.SReturn})
		for range api.MaxShape - 4 {
			s.Body = inner
			inner = list(s)
		}
		p := api.Program{Funcs: []api.Func{{Name: "f", Body: inner}, mainOf(expr(call("f")))}}
		agrees(t, p, "", api.MaxTicks, 0)
	}
	deep := call("f", name("n"))
	for range api.MaxShape - 5 {
		deep = one(api.CNot, deep)
	}
	p := api.Program{Funcs: []api.Func{{Name: "f", Result: i16t, Params: []api.Param{{Type: i16t, Name: "n"}}, Body: list(returning(deep))}, mainOf(expr(call("f", num(1))))}}
	agrees(t, p, "", api.MaxTicks, 0)
}

// TestLongRuns: up to MaxTicks, at and next to what they take.
func TestLongRuns(t *testing.T) {
	for _, text := range []string{
		"u32 s; i16 main() { u16 k; for (k = 0; k < 15000u; k = k + 1) { s = s * 31 + k; } put(s); put(s >> 8); return s >> 16; }",
		"i16 fib(i16 n) { if (n < 2) return n; return fib(n - 1) + fib(n - 2); } i16 main() { return fib(18); }",
		"u8 a[1000]; i16 main() { i16 i; i16 j; for (i = 2; i < 1000; i = i + 1) { if (!a[i]) { put(i); for (j = i + i; j < 1000; j = j + i) { a[j] = 1; } } } }",
	} {
		p := read(t, text)
		r := modelled(p, "", api.MaxTicks)
		for _, limit := range []int{0, 1, 1000, r.ticks / 2, r.ticks - 1, r.ticks, min(r.ticks+1, api.MaxTicks), api.MaxTicks} {
			runs(t, p, "", limit, r.cut(limit))
		}
	}
}

// TestSideBySide: many run one program at once, and each one gets the same.
func TestSideBySide(t *testing.T) {
	var programs []api.Program
	var inputs [][]byte
	var want []api.Told
	for seed := range int64(40) {
		m := &maker{Rand: rand.New(rand.NewSource(seed))}
		p, input := m.program(), []byte(m.input())
		told, _ := Run(p, input, 2000)
		programs, inputs, want = append(programs, p), append(inputs, input), append(want, told)
	}
	var done sync.WaitGroup
	for k := range 16 {
		done.Add(1)
		go func() {
			defer done.Done()
			for i := range programs {
				at := (i + k*7) % len(programs)
				if got, f := Run(programs[at], inputs[at], 2000); f != (api.Fault{}) || !reflect.DeepEqual(got, want[at]) {
					t.Errorf("%+v, %v comes, not %+v", got, f, want[at])
				}
			}
		}()
	}
	done.Wait()
}

func FuzzRun(f *testing.F) {
	for _, text := range append(texts, "", "i16 x = 1 / 0;", "void main() { 1 / 0 && 3 % (u8)256; -32768; !0u; }", echo, helpers+"void main() { x = 3; while (say(x)) { x = x - 1; if (x == 1) continue; a[x] = 5; } }") {
		f.Add(text, "ab c")
	}
	f.Fuzz(func(t *testing.T, text, input string) {
		p, fault := source.Read(text)
		if fault.Err != api.OK || len(input) > api.MaxInput {
			return
		}
		if wrong := check.Check(p); wrong != (api.Fault{}) {
			refuses(t, p, []byte(input), 500, wrong)
			return
		}
		agrees(t, p, input, 500, 50)
	})
}
