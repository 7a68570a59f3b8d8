package eval

import (
	"fmt"
	"math"
	"math/big"
	"reflect"
	"testing"

	"pairlegal/api"
	"pairlegal/check"
)

// K1

func TestTheDocumentsExample(t *testing.T) {
	halts(t, "i16 main() { put(65); return 7; }", "", api.Told{Output: []byte("A"), Ticks: 5, Result: 7})
}

// refuses holds the fault of a run against what it must be; nothing comes beside it.
func refuses(t *testing.T, p api.Program, input []byte, limit int, want api.Fault) {
	t.Helper()
	got, f := Run(p, input, limit)
	if f != want || !reflect.DeepEqual(got, api.Told{}) {
		t.Errorf("%s, %v comes, not %v, of %d bytes, %d, and\n%.1000s", brief(got), f, want, len(input), limit, shown(p))
	}
}

// wrongPrograms are programs with which something is wrong, and what.
func wrongPrograms(t *testing.T) ([]api.Program, []api.Fault) {
	loop := make([]api.Stat, 1)
	loop[0] = api.Stat{Kind: api.SBlock, Body: loop}
	deep := num(1)
	for range api.MaxShape {
		deep = one(api.CNeg, deep)
	}
	endless := one(api.CNeg, api.Expr{})
	endless.Kids[0] = endless
	var programs []api.Program
	var faults []api.Fault
	add := func(p api.Program, err api.Errno, at int) {
		programs, faults = append(programs, p), append(faults, api.Fault{Err: err, At: at})
	}
	add(api.Program{}, api.ErrNone, 0)
	add(api.Program{Funcs: make([]api.Func, api.MaxFuncs+1)}, api.ErrMany, 0)
	for _, c := range []struct {
		s   api.Stat
		err api.Errno
	}{
		{api.Stat{}, api.ErrKind}, {api.Stat{Kind: api.SBlock + 1}, api.ErrKind}, {expr(api.Expr{}), api.ErrKind}, {expr(cast(api.Type{}, num(1))), api.ErrType}, {expr(api.Expr{Kind: api.CAdd}), api.ErrMany},
		{expr(name("")), api.ErrName}, {loop[0], api.ErrMuch}, {expr(deep), api.ErrMuch}, {expr(endless), api.ErrMuch}, {api.Stat{Kind: api.SFor, Init: list(none())}, api.ErrFit}, {api.Stat{Kind: api.SBreak}, api.ErrFit},
		{api.Stat{Kind: api.SDecl, Name: "x"}, api.ErrType}, {api.Stat{Kind: api.SSet, Name: "0"}, api.ErrName},
	} {
		add(api.Program{Funcs: []api.Func{mainOf(c.s)}}, c.err, 0)
	}
	for _, c := range []struct {
		text string
		err  api.Errno
		at   int
	}{
		{"i16 x;", api.ErrNone, 1}, {"i16 x; void f() { }", api.ErrNone, 2}, {"void main(i16 x) { }", api.ErrNone, 1}, {"i16 x; i16 y = 1 / 0; void main() { }", api.ErrZero, 1}, {"i16 x = y; void main() { }", api.ErrFit, 0}, {"i16 x; u8 x; void main() { }", api.ErrName, 1},
		{"i16 get; void main() { }", api.ErrName, 0}, {"i16 a[8000]; i16 b; void main() { }", api.ErrMuch, 1}, {"void f() { } void f() { } void main() { }", api.ErrName, 1}, {"void f(i16 a, i16 a) { } void main() { }", api.ErrName, 0}, {"i16 x; void f() { } void main() { y = 1; }", api.ErrName, 2},
		{"void main() { put(65); if (0) { return 1; } }", api.ErrType, 0}, {"void main() { if (1) { } else { continue; } }", api.ErrFit, 0}, {"i16 main() { return; }", api.ErrType, 0}, {"void main() { put(); }", api.ErrMany, 0}, {"void main() { get(1); }", api.ErrMany, 0}, {"i16 main() { return put(1); }", api.ErrType, 0},
		{"void main() { i16 y; { i16 y; } }", api.ErrName, 0}, {"u8 a[3]; void main() { a = 1; }", api.ErrType, 1}, {"u8 a; void main() { a[0] = 1; }", api.ErrType, 1}, {"void main() { { i16 y; } y = 1; }", api.ErrName, 0}, {"void main() { " + wideLocals(51) + " }", api.ErrMuch, 0},
	} {
		add(read(t, c.text), c.err, c.at)
	}
	return programs, faults
}

// wideLocals declares n names of four words each.
func wideLocals(n int) (out string) {
	for i := range n {
		out += fmt.Sprintf("i64 local%d; ", i)
	}
	return out
}

// TestFaults: what Check says, then the input, then the limit; whatever comes behind it.
func TestFaults(t *testing.T) {
	long, limits := make([]byte, api.MaxInput+1), []int{math.MinInt, -1, api.MaxTicks + 1, math.MaxInt}
	programs, faults := wrongPrograms(t)
	for i, p := range programs {
		if f := check.Check(p); f != faults[i] {
			t.Errorf("Check tells %v, not %v, of\n%.1000s", f, faults[i], shown(p))
		}
		for _, input := range [][]byte{nil, long} {
			for _, limit := range append(limits, 0, 100, api.MaxTicks) {
				refuses(t, p, input, limit, faults[i])
			}
		}
	}
	p := read(t, "i16 main() { put(1); return 5; }")
	for _, limit := range append(limits, 0, 100, api.MaxTicks) {
		refuses(t, p, long, limit, api.Fault{Err: api.ErrMuch})
		refuses(t, p, make([]byte, 2*api.MaxInput), limit, api.Fault{Err: api.ErrMuch})
	}
	for _, limit := range limits {
		refuses(t, p, nil, limit, api.Fault{Err: api.ErrRange})
		refuses(t, p, long[1:], limit, api.Fault{Err: api.ErrRange})
	}
}

// TestTheLongestInput: all of it may be taken in.
func TestTheLongestInput(t *testing.T) {
	input := make([]byte, api.MaxInput)
	for i := range input {
		input[i] = byte(i * 7)
	}
	p := read(t, "i16 main() { i16 k; for (; k < 64; k = k + 1) { "+many("get(); ", 1023)+" put(get()); } return get(); }")
	want := api.Told{How: api.RanHalt, Read: api.MaxInput, Result: 65535}
	for k := range 64 {
		want.Output = append(want.Output, input[k*1024+1023])
	}
	// Of each round: the asking with three, the gets with two, the put with three and the step with four; then the last asking, and what stands around.
	want.Ticks = 64*(4+1023*2+3+4) + 4 + 2 + 2
	runs(t, p, string(input), api.MaxTicks, want)
	runs(t, p, string(input), want.Ticks, want)
}

// TestTheLimits: 0 and MaxTicks are limits.
func TestTheLimits(t *testing.T) {
	nothing, ever := read(t, "void main() { }"), read(t, "void main() { for (;;) { } }")
	runs(t, nothing, "", 0, api.Told{How: api.RanHalt})
	runs(t, nothing, "", api.MaxTicks, api.Told{How: api.RanHalt})
	runs(t, ever, "", 0, api.Told{How: api.RanFuel})
	runs(t, ever, "", api.MaxTicks, api.Told{How: api.RanFuel, Ticks: api.MaxTicks})
	runs(t, ever, "", api.MaxTicks-1, api.Told{How: api.RanFuel, Ticks: api.MaxTicks - 1})
}

func TestVariablesOfAllByHand(t *testing.T) {
	for _, c := range []struct {
		text string
		want uint64
	}{
		{"u8 g = 300; u64 main() { return g; }", 44}, {"i8 g = 200; u64 main() { return g; }", 1<<64 - 56}, {"u8 g = -1; u64 main() { return g; }", 255}, {"u64 g = (i8)255; u64 main() { return g; }", 1<<64 - 1}, {"i64 g = (u8)255; u64 main() { return g; }", 255},
		{"i16 g = 65535u; u64 main() { return g; }", 1<<64 - 1}, {"u16 g = 65536; u64 main() { return g; }", 0}, {"i32 g = 4294967295; u64 main() { return g; }", 1<<64 - 1}, {"u32 g = -2; u64 main() { return g; }", 1<<32 - 2}, {"i64 g = -9223372036854775807 - 1; u64 main() { return g; }", 1 << 63},
		{"u64 g = 18446744073709551615u; u64 main() { return g; }", 1<<64 - 1}, {"u8 g = 1 && 0 || 7 > 3; u64 main() { return g; }", 1},
		{"i16 a[4] = {1, -2}; u64 main() { return a[1]; }", 1<<64 - 2}, {"i16 a[4] = {1, -2}; u64 main() { return a[2]; }", 0}, {"u8 a[3] = {256, 257, 258}; u64 main() { return a[0] * 100 + a[1] * 10 + a[2]; }", 12}, {"i16 a[2] = {}; u64 main() { return a[0] + a[1]; }", 0}, {"i8 a[1] = {128}; u64 main() { return a[0]; }", 1<<64 - 128},
		{"i16 x = 1; i16 y = 20; i16 z = 300; u64 main() { return x + y + z; }", 321},
	} {
		tells(t, c.text, "", "", 0, c.want)
	}
}

// TestVariablesOfAll: of each type, without a number and with numbers at the bounds of each type, alone and in an array.
func TestVariablesOfAll(t *testing.T) {
	for _, to := range allTypes {
		alone := func(x api.Expr, init ...api.Expr) uint64 {
			got, _ := Run(answering(x, api.Global{Type: to, Name: "g", Init: init}), nil, 9)
			return got.Result
		}
		if got := alone(name("g")); got != 0 {
			t.Errorf("%d comes of %v without a number", got, to)
		}
		for _, from := range allTypes {
			for _, n := range edges(from) {
				want := bits(wrapped(n, to), u64t)
				if got := alone(name("g"), written(n, from)); got != want {
					t.Errorf("%d comes, not %d, of %v as %v in %v", got, want, n, from, to)
				}
				array := api.Global{Type: to, Name: "a", Size: 4, Init: []api.Expr{num(0), written(n, from), num(0)}}
				for i, want := range []uint64{0, want, 0, 0} {
					got, _ := Run(answering(at("a", num(uint64(i))), array), nil, 9)
					if got.Result != want {
						t.Errorf("%d comes, not %d, at %d of an array with %v as %v in %v", got.Result, want, i, n, from, to)
					}
				}
			}
		}
	}
}

// TestTheMostVariables: as many words as there may be, each number where it belongs.
func TestTheMostVariables(t *testing.T) {
	var p api.Program
	sum := num(0)
	want := 0
	for i := range 80 {
		p.Globals = append(p.Globals, api.Global{Type: u16t, Name: fmt.Sprintf("a%d", i), Size: 100, Init: []api.Expr{num(uint64(i))}})
		want += (i + 1) * i
		sum = two(api.CAdd, two(api.CMul, at(fmt.Sprintf("a%d", i), num(0)), cast(u64t, num(uint64(i+1)))), sum)
	}
	p.Funcs = answering(sum).Funcs
	got, f := Run(p, nil, enough)
	if f != (api.Fault{}) || got.How != api.RanHalt || got.Result != uint64(want) {
		t.Errorf("%+v, %v comes, not %d", got, f, want)
	}
}

func TestMainTells(t *testing.T) {
	for _, c := range []struct {
		text  string
		ticks int
		want  uint64
	}{
		{"void main() { }", 0, 0}, {"i16 main() { }", 0, 0}, {"void main() { return; }", 1, 0}, {"i16 main() { return 7; }", 2, 7}, {"void main() { 5; }", 2, 0}, {"i16 main() { 5; }", 2, 0}, {"i16 main() { if (0) { return 5; } }", 2, 0}, {"i16 main() { while (1) { return 5; } return 6; }", 5, 5},
		{"i16 main() { return -1; }", 3, 65535}, {"i8 main() { return -1; }", 3, 255}, {"u8 main() { return 300; }", 2, 44}, {"i64 main() { return -1; }", 3, 1<<64 - 1}, {"u64 main() { return -1; }", 3, 1<<64 - 1}, {"i32 main() { return -1; }", 3, 1<<32 - 1}, {"u32 main() { return (u8)-1; }", 4, 255}, {"i16 main() { return 65537; }", 2, 1},
		{"i16 f() { return 5; } i16 main() { f(); }", 4, 0}, {"i16 f() { return 5; } void main() { f(); }", 4, 0}, {"i16 f() { return 5; } void main() { f(); return; }", 5, 0}, {"i16 f() { return 5; } i16 main() { return f() + 1; }", 6, 6}, {"void f() { } i16 main() { f(); return 3; }", 4, 3},
	} {
		halts(t, c.text, "", api.Told{Ticks: c.ticks, Result: c.want})
	}
}

// TestMainTellsEachType: what it returns, converted to what it tells.
func TestMainTellsEachType(t *testing.T) {
	for _, from := range allTypes {
		for _, to := range allTypes {
			for _, n := range edges(from) {
				p := api.Program{Funcs: []api.Func{{Name: "main", Result: to, Body: list(returning(written(n, from)))}}}
				runs(t, p, "", 3, api.Told{How: api.RanHalt, Ticks: 3, Result: bits(n, to)})
			}
		}
	}
}

// TestNoResultElse: a run that ends otherwise has none, whatever was told within it.
func TestNoResultElse(t *testing.T) {
	traps(t, "i16 f() { return 5; } i16 main() { return f() / 0; }", "", api.Told{Trap: api.TrapZero, Ticks: 6})
	traps(t, "i16 a[2]; i16 f() { return 5; } i16 main() { f(); return a[f()]; }", "", api.Told{Trap: api.TrapPlace, Ticks: 9})
	p := read(t, "i16 f() { return 5; } i16 main() { f(); return f(); }")
	runs(t, p, "", 7, api.Told{How: api.RanFuel, Ticks: 7})
	runs(t, p, "", 8, api.Told{How: api.RanHalt, Ticks: 8, Result: 5})
}

// TestWhereMainStands: it is called wherever it stands, and may be called again.
func TestWhereMainStands(t *testing.T) {
	tells(t, "void f() { put(66); } void main() { put(65); f(); } void g() { put(67); }", "", "AB", 0, 0)
	tells(t, "void main() { put(65); f(); } void f() { put(66); }", "", "AB", 0, 0)
	tells(t, "i16 n; i16 main() { n = n + 1; put(n + 48); if (n < 4) { return main() * 2; } return n; }", "", "1234", 0, 32)
	tells(t, "i16 main() { i16 main = 5; return main; }", "", "", 0, 5)
	tells(t, "i16 f(i16 x) { return x + 1; } i16 main() { i16 f = 5; i16 put = 66; f = f(f); put(put); return f; }", "", "B", 0, 6)
}

// TestLargeNumbers: nothing is lost of 64 bits on the way.
func TestLargeNumbers(t *testing.T) {
	n, _ := new(big.Int).SetString("12345678901234567890", 10)
	tells(t, "u64 g; u64 a[2]; u64 f(u64 x) { u64 y = x; g = y; a[1] = g; return a[1]; } u64 main() { return f(12345678901234567890u); }", "", "", 0, n.Uint64())
}
