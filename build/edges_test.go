package build

import (
	"fmt"
	"reflect"
	"sync"
	"testing"

	"pairlegal/api"
	"pairlegal/source"
)

// Z1 to Z5

// The roomy ones are the same with spare room behind each list, in which there is something that would be wrong.

func roomyExprs(l []api.Expr) []api.Expr {
	out := make([]api.Expr, 0, len(l)+2)
	for _, x := range l {
		x.Kids = roomyExprs(x.Kids)
		out = append(out, x)
	}
	return append(out, api.Expr{Name: "spare"})[:len(l)]
}

func roomyBlock(l []api.Stat) []api.Stat {
	out := make([]api.Stat, 0, len(l)+2)
	for _, s := range l {
		s.X.Kids, s.I.Kids = roomyExprs(s.X.Kids), roomyExprs(s.I.Kids)
		s.Init, s.Step, s.Body, s.Else = roomyBlock(s.Init), roomyBlock(s.Step), roomyBlock(s.Body), roomyBlock(s.Else)
		out = append(out, s)
	}
	return append(out, api.Stat{Name: "spare"})[:len(l)]
}

func roomy(p api.Program) api.Program {
	out := api.Program{Globals: make([]api.Global, 0, len(p.Globals)+1), Funcs: make([]api.Func, 0, len(p.Funcs)+1)}
	for _, g := range p.Globals {
		g.Init = roomyExprs(g.Init)
		out.Globals = append(out.Globals, g)
	}
	for _, f := range p.Funcs {
		f.Params = append(append(make([]api.Param, 0, len(f.Params)+2), f.Params...), api.Param{Name: "spare"})[:len(f.Params)]
		f.Body = roomyBlock(f.Body)
		out.Funcs = append(out.Funcs, f)
	}
	return out
}

// walk calls do with each list in v.
func walk(v reflect.Value, do func(reflect.Value)) {
	switch v.Kind() {
	case reflect.Slice:
		do(v)
		for i := range v.Len() {
			walk(v.Index(i), do)
		}
	case reflect.Struct:
		for i := range v.NumField() {
			walk(v.Field(i), do)
		}
	}
}

// whole tells all lists of something, with their spare room.
func whole(x any) string {
	out := ""
	walk(reflect.ValueOf(x), func(l reflect.Value) {
		out += fmt.Sprintf("%+v\n", l.Slice3(0, l.Cap(), l.Cap()))
	})
	return out
}

// spoil overwrites all lists of something, with their spare room; they are gathered first, for some stand in others.
func spoil(x any) {
	var lists []reflect.Value
	walk(reflect.ValueOf(x), func(l reflect.Value) { lists = append(lists, l.Slice3(0, l.Cap(), l.Cap())) })
	for _, l := range lists {
		for i := range l.Len() {
			l.Index(i).SetZero()
		}
	}
}

// small is a program at random of which there is an image.
func small(seed int64) api.Program {
	for {
		if p := made(seed).program(); source.Nodes(p) <= api.MaxBuild {
			return p
		}
		seed += 100000
	}
}

// TestBuildOnlyReads: nothing that is handed in is changed or kept, and its spare room is not looked at.
func TestBuildOnlyReads(t *testing.T) {
	for seed := range int64(40) {
		p := small(seed)
		want := built(t, p)
		p = roomy(p)
		ahead := whole(p)
		got := built(t, p)
		if !reflect.DeepEqual(got, want) {
			t.Fatalf("spare room makes other words of\n%s", shown(p))
		}
		if whole(p) != ahead {
			t.Fatalf("what was handed in is changed:\n%s", shown(p))
		}
		// What comes is the caller's, and so is what was handed in.
		spoil(built(t, p))
		if whole(p) != ahead || !reflect.DeepEqual(got, want) || !reflect.DeepEqual(built(t, p), want) {
			t.Fatalf("what came is a part of something else:\n%s", shown(p))
		}
		spoil(p)
		if !reflect.DeepEqual(got, want) {
			t.Fatal("what was handed in is a part of what came")
		}
	}
}

// TestNilIsEmpty: a list without entries is the same as none.
func TestNilIsEmpty(t *testing.T) {
	empty := func(s api.Stat) api.Stat {
		s.Init, s.Step, s.Body, s.Else = []api.Stat{}, []api.Stat{}, []api.Stat{}, []api.Stat{}
		s.X.Kids, s.I.Kids = []api.Expr{}, []api.Expr{}
		return s
	}
	for _, s := range []api.Stat{none(), {Kind: api.SDecl, Type: i16t, Name: "x"}, expr(num(1)), expr(call("get")), {Kind: api.SReturn}, {Kind: api.SIf, X: num(1)}, {Kind: api.SIf, X: num(0)}, {Kind: api.SWhile, X: num(1)}, {Kind: api.SWhile, X: num(0)}, {Kind: api.SFor}, {Kind: api.SBlock}} {
		want := built(t, api.Program{Funcs: []api.Func{mainOf(s)}})
		m := mainOf(empty(s))
		m.Params = []api.Param{}
		got := built(t, api.Program{Globals: []api.Global{}, Funcs: []api.Func{m}})
		if !reflect.DeepEqual(got, want) {
			t.Errorf("%v comes, not %v", got, want)
		}
	}
	refuses(t, api.Program{}, api.Fault{Err: api.ErrNone})
	refuses(t, api.Program{Globals: []api.Global{}, Funcs: []api.Func{}}, api.Fault{Err: api.ErrNone})
}

// littered is a program with something in all fields that its kinds have not.
func littered(l []api.Stat) (out []api.Stat) {
	junk := list(put(num(99)), api.Stat{Kind: 77})
	for _, s := range l {
		switch s.Kind {
		case api.SIf:
			s.Body, s.Else = littered(s.Body), littered(s.Else)
		case api.SFor:
			s.Init, s.Step, s.Body, s.Else = littered(s.Init), littered(s.Step), littered(s.Body), junk
		case api.SWhile, api.SBlock:
			s.Body, s.Else = littered(s.Body), junk
		default:
			s.Body, s.Else = junk, junk
		}
		if s.Kind != api.SFor {
			s.Init, s.Step = junk, junk
		}
		switch s.Kind {
		case api.SNone, api.SExpr, api.SIf, api.SWhile, api.SBreak, api.SContinue, api.SBlock:
			s.Has = !s.Has
		}
		s.X, s.I = litteredExpr(s.X), litteredExpr(s.I)
		if s.Kind != api.SDecl {
			s.Type = u8t
		}
		if s.Kind != api.SDecl && s.Kind != api.SSet {
			s.Name = "one"
		}
		out = append(out, s)
	}
	return out
}

// litteredExpr is so; one that is not there becomes a call that would tell something.
func litteredExpr(x api.Expr) api.Expr {
	if x.Kind == 0 {
		return call("put", num(98))
	}
	x.Kids = append([]api.Expr(nil), x.Kids...)
	for i, kid := range x.Kids {
		x.Kids[i] = litteredExpr(kid)
	}
	if x.Kind != api.CNum {
		x.N = 97
		if x.Kind != api.CCast {
			x.Type = u64t
		}
	}
	if x.Kind != api.CVar && x.Kind != api.CAt && x.Kind != api.CCall {
		x.Name = "two"
	}
	return x
}

// TestOtherFields: what a kind has not means nothing.
func TestOtherFields(t *testing.T) {
	for seed := range int64(300) {
		p := small(seed)
		want := built(t, p)
		for i := range p.Funcs {
			p.Funcs[i].Body = littered(p.Funcs[i].Body)
		}
		if got := built(t, p); !reflect.DeepEqual(got, want) {
			t.Fatalf("other words come of\n%s", shown(p))
		}
	}
}

// TestPartsThatAreShared: a part that stands at many places means at each what it means there.
func TestPartsThatAreShared(t *testing.T) {
	block := list(api.Stat{Kind: api.SSet, Name: "x", X: two(api.CAdd, name("x"), num(1))}, put(name("x")))
	own := append(list(api.Stat{Kind: api.SDecl, Type: u8t, Name: "x", Has: true, X: num(200)}), block...)
	p := api.Program{Globals: []api.Global{{Type: i16t, Name: "x"}}, Funcs: []api.Func{
		{Name: "f", Params: []api.Param{{Type: i8t, Name: "x"}}, Body: block}, mainOf(append(block, api.Stat{Kind: api.SBlock, Body: own}, expr(call("f", num(100))), api.Stat{Kind: api.SIf, X: num(1), Body: block, Else: block})...),
	}}
	if r := comesToEnd(t, p, ""); string(r.Output) != "\x01\xc9\x65\x02" {
		t.Errorf("%q comes", r.Output)
	}
}

// TestNames: whatever names a program has, also those of routines and labels, it means the same.
func TestNames(t *testing.T) {
	names := []string{"mul1", "udiv4", "start", "full", "beyond", "too_deep", "f0", "f1", "f2", "l1", "back", "halt", "r7", "x", "X", "_", "main_", "A_name_that_has_32_letters_in_it", "Put", "GET"}
	for i, a := range names {
		b, c := names[(i+1)%len(names)], names[(i+5)%len(names)]
		text := "u32 " + c + " = 70000; u64 " + a + "(u64 " + b + ") { u8 " + c + " = 7; put(" + c + "); return " + b + " * " + c + "; } i64 " + b + "(i64 " + a + ") { return " + a + " / 3; } void main() { u16 " + a + " = 30u; put(" + a + "(" + b + "(" + a + "))); put(" + c + " >> 8); }"
		halts(t, text, "", "\x07\x46\x11", 0)
	}
	// A local one hides one of all from where it is declared to the end of its block, and no function.
	halts(t, "i16 g = 1; i16 f() { return g; } void main() { put(g); { i16 f = g + 1; i16 g = f + 1; put(f); put(g); put(f()); { put(g); g = 9; } put(g); } put(g); g = 5; put(f()); }", "", "\x01\x02\x03\x01\x03\x09\x01\x05", 0)
}

// TestSideBySide: many build one program at once, and each one gets the same.
func TestSideBySide(t *testing.T) {
	var programs []api.Program
	var want []api.Image
	for seed := range int64(30) {
		p := small(seed)
		programs, want = append(programs, p), append(want, built(t, p))
	}
	var done sync.WaitGroup
	for k := range 8 {
		done.Add(1)
		go func() {
			defer done.Done()
			for i := range programs {
				at := (i + k*7) % len(programs)
				if got, f := Build(programs[at]); f != (api.Fault{}) || !reflect.DeepEqual(got, want[at]) {
					t.Errorf("other words, %v come of program %d", f, at)
				}
			}
		}()
	}
	done.Wait()
}
