package eval

import (
	"testing"

	"pairlegal/api"
)

// K2

// around has what the programs of these tests have ahead of main.
const around = "i16 x = 3; u8 a[9]; i16 f(i64 n, u8 m) { return 1; } void g() { } i16 none() { } void deep() { ; ; ; } "

// TestEachStatementIsATick: how many ticks main takes that has these statements alone.
func TestEachStatementIsATick(t *testing.T) {
	for _, c := range []struct {
		body  string
		ticks int
	}{
		{"", 0}, {";", 1}, {";;;", 3}, {"i16 y;", 1}, {"i16 y = 1;", 2}, {"i16 y = 1 + 2;", 4}, {"x = 1;", 2}, {"x = 1 + 2;", 4}, {"a[1] = 2;", 3}, {"a[1 + 1] = 2 + 2;", 7}, {"1;", 2}, {"put(1);", 3}, {"get();", 2}, {"g();", 2}, {"deep();", 5},
		{"return;", 1}, {"return; ;", 1}, {"{ }", 1}, {"{ ; }", 2}, {"{ { ; } ; }", 4}, {"{ i16 y; } i16 z;", 3},
		{"if (1) { }", 2}, {"if (1) { ; }", 3}, {"if (0) { ; }", 2}, {"if (1) { ; } else { ; ; }", 3}, {"if (0) { ; } else { ; ; }", 4}, {"if (x < 1) { ; } else if (x) { ; } else { ; ; }", 7}, {"if (1) ;", 3},
		{"while (0) { }", 3}, {"while (0) { ; ; }", 3}, {"while (x) { x = x - 1; }", 1 + 4*2 + 3*4}, {"while (1) { break; }", 4}, {"while (x) { x = x - 1; continue; ; }", 1 + 4*2 + 3*5}, {"while (x) { return; }", 4}, {"while (x - 3) { }", 5},
		{"for (; 0; ) { }", 3}, {"for (; 0; put(1)) { }", 3}, {"for (;;) { break; }", 3}, {"for (;;) { return; }", 3}, {"for (x = 1; ; ) { break; }", 5}, {"for (put(1); ; ) { break; }", 6}, {"for (x = 0; x < 3; x = x + 1) { }", 1 + 2 + 4*4 + 3*4}, {"for (x = 0; x < 3; x = x + 1) { ; }", 1 + 2 + 4*4 + 3*5},
		{"for (x = 0; x < 3; x = x + 1) { continue; ; }", 1 + 2 + 4*4 + 3*5}, {"for (; x; x = x - 1) { }", 1 + 4*2 + 3*4}, {"for (; x; ) { x = x - 1; }", 1 + 4*2 + 3*4}, {"for (; ; x = x - 1) { if (!x) break; }", 1 + 4*(1+3) + 1 + 3*4}, {"for (a[0] = 2; a[0]; a[0] = a[0] - 1) { }", 1 + 3 + 3*3 + 2*6},
		{"for (x = 0; x < 2; x = x + 1) { while (1) { break; } }", 1 + 2 + 3*4 + 2*(4+4)},
	} {
		takes(t, c.body, c.ticks)
	}
}

// takes: how many ticks a main with these statements takes to come to its end, or back.
func takes(t *testing.T, body string, ticks int) {
	t.Helper()
	got, f := Run(read(t, around+"void main() { "+body+" }"), nil, enough)
	if f != (api.Fault{}) || got.How != api.RanHalt || got.Ticks != ticks {
		t.Errorf("%+v, %v comes of %s, not %d ticks", got, f, body, ticks)
	}
}

// TestEachExpressionIsATick: how many ticks an expression takes in a statement of its own.
func TestEachExpressionIsATick(t *testing.T) {
	for _, c := range []struct {
		x     string
		ticks int
	}{
		{"1", 1}, {"70000", 1}, {"5u", 1}, {"x", 1}, {"a[0]", 2}, {"a[x]", 2}, {"a[a[0]]", 3}, {"(u8)1", 2}, {"(u8)(i64)x", 3}, {"-1", 2}, {"~x", 2}, {"!x", 2}, {"- - -1", 4}, {"(1)", 1}, {"((x))", 1},
		{"1 * 2", 3}, {"1 / 2", 3}, {"1 % 2", 3}, {"1 + 2", 3}, {"1 - 2", 3}, {"1 << 2", 3}, {"1 >> 2", 3}, {"1 < 2", 3}, {"1 <= 2", 3}, {"1 > 2", 3}, {"1 >= 2", 3}, {"1 == 2", 3}, {"1 != 2", 3}, {"1 & 2", 3}, {"1 ^ 2", 3}, {"1 | 2", 3},
		{"1 && 2", 3}, {"1 && 0", 3}, {"0 && 2", 2}, {"0 && (1 + 2 + 3)", 2}, {"0 || 2", 3}, {"0 || 0", 3}, {"1 || 2", 2}, {"1 || (1 + 2 + 3)", 2}, {"0 && 1 || 2", 4}, {"1 || 0 && 1", 2}, {"0 && 0 && 0", 3},
		{"1 + 2 * 3", 5}, {"(1 + 2) * (3 - 4)", 7}, {"get()", 1}, {"none()", 1}, {"g()", 1}, {"deep()", 4}, {"f(1, 2)", 5}, {"f(f(1, 2), 1 + 2)", 11}, {"put(get())", 2}, {"a[f(1, 2)]", 6},
	} {
		takes(t, c.x+";", 1+c.ticks)
	}
}

// TestEachKindIsATick: no kind takes more or less than one for itself.
func TestEachKindIsATick(t *testing.T) {
	for kind := api.CMul; kind <= api.CLor; kind++ {
		for _, a := range []uint64{1, 0} {
			x := two(kind, num(a), num(1))
			ticks := 4
			if kind == api.CLand && a == 0 || kind == api.CLor && a == 1 {
				ticks = 3
			}
			got, _ := Run(answering(x), nil, enough)
			if got.How != api.RanHalt || got.Ticks != ticks {
				t.Errorf("%+v comes of kind %d", got, kind)
			}
			if short, _ := Run(answering(x), nil, ticks-1); short.How != api.RanFuel || short.Ticks != ticks-1 {
				t.Errorf("%+v comes of kind %d", short, kind)
			}
		}
	}
}

// TestEachLimitByHand: what is told, read and answered at each limit.
func TestEachLimitByHand(t *testing.T) {
	fuel := func(ticks int, output string, read int) api.Told {
		return api.Told{How: api.RanFuel, Output: []byte(output), Read: read, Ticks: ticks}
	}
	halt := func(ticks int, output string, read int, result uint64) api.Told {
		return api.Told{How: api.RanHalt, Output: []byte(output), Read: read, Ticks: ticks, Result: result}
	}
	trap := func(ticks int, output string, read, n int) api.Told {
		return api.Told{How: api.RanTrap, Trap: n, Output: []byte(output), Read: read, Ticks: ticks}
	}
	for _, c := range []struct {
		text, input string
		want        []api.Told
	}{
		{"i16 main() { put(65); return 7; }", "", []api.Told{fuel(0, "", 0), fuel(1, "", 0), fuel(2, "", 0), fuel(3, "A", 0), fuel(4, "A", 0), halt(5, "A", 0, 7), halt(5, "A", 0, 7)}},
		{"void main() { }", "", []api.Told{halt(0, "", 0, 0), halt(0, "", 0, 0)}},
		{"void main() { put(get()); put(get()); }", "xyz", []api.Told{fuel(0, "", 0), fuel(1, "", 0), fuel(2, "", 0), fuel(3, "x", 1), fuel(4, "x", 1), fuel(5, "x", 1), halt(6, "xy", 2, 0), halt(6, "xy", 2, 0)}},
		{"i16 main() { return get() + get(); }", "\x01\x02", []api.Told{fuel(0, "", 0), fuel(1, "", 0), fuel(2, "", 0), fuel(3, "", 1), halt(4, "", 2, 3), halt(4, "", 2, 3)}},
		{"i16 a[1]; void main() { put(66); a[get()] = get(); }", "\x01\x02", []api.Told{fuel(0, "", 0), fuel(1, "", 0), fuel(2, "", 0), fuel(3, "B", 0), fuel(4, "B", 0), trap(5, "B", 1, api.TrapPlace), trap(5, "B", 1, api.TrapPlace)}},
		{"void main() { 1 / get(); }", "\x00", []api.Told{fuel(0, "", 0), fuel(1, "", 0), fuel(2, "", 0), fuel(3, "", 0), trap(4, "", 1, api.TrapZero), trap(4, "", 1, api.TrapZero)}},
		{"void main() { for (;;) { put(67); } }", "", []api.Told{fuel(0, "", 0), fuel(1, "", 0), fuel(2, "", 0), fuel(3, "", 0), fuel(4, "", 0), fuel(5, "C", 0), fuel(6, "C", 0), fuel(7, "C", 0), fuel(8, "C", 0), fuel(9, "CC", 0), fuel(10, "CC", 0)}},
		{"i16 main() { while (get() + 1) { } return 9; }", "D", []api.Told{fuel(0, "", 0), fuel(1, "", 0), fuel(2, "", 0), fuel(3, "", 0), fuel(4, "", 1), fuel(5, "", 1), fuel(6, "", 1), fuel(7, "", 1), fuel(8, "", 1), fuel(9, "", 1), fuel(10, "", 1), halt(11, "", 1, 9), halt(11, "", 1, 9)}},
	} {
		for limit, want := range c.want {
			runs(t, read(t, c.text), c.input, limit, want)
		}
	}
}

// texts are programs with much in them.
var texts = []string{
	"u8 g = 300; i32 a[3] = {1, -2, 3 << 20}; i16 main() { i64 s = 0; i16 k; for (k = 0; k < 3; k = k + 1) { s = s * 7 + a[k]; } put(s); put(s >> 8); put(g); return s; }",
	"u32 f(u32 n, i8 d) { if (n < 2u) { return 1u; } return n * f(n - 1u, d) + d; } i16 main() { u32 r = f(9u, 200); while (r != 0u) { put(r % 10u + 48u); r = r / 10u; } }",
	"i16 main() { i16 c; for (;;) { c = get(); if (c < 0) { break; } if (c == 32 || c > 96 && c < 100) { continue; } put(~c); put(!c); put(-c); } return 1 / (c + 1); }",
	"void f() { f(); } void main() { f(); }",
	"i16 n; i16 main() { while (n < 5) { n = n + 1; if (n == 2) continue; for (; ; put(n)) { if (get() < n) break; } } return n; }",
	"u8 a[5]; void main() { i16 k; for (k = 0; k < 9; k = k + 1) { a[k] = get(); put(a[k] + 1); } }",
	"i16 f(i16 n) { put(n); if (n > 3) return n; { i16 m = f(n + 1) + f(n + 2); put(m); return m; } } i16 main() { return f(0); }",
	"i16 x = 5; void main() { while (x) { x = x - 1; { u8 x = 7; put(x); x = x + 1; put(x); } put(x); i64 y; put(y); y = x; } }",
}

// TestEachLimit: from 0 up to one more than they take.
func TestEachLimit(t *testing.T) {
	for _, text := range texts {
		for _, input := range []string{"", "a", "a b c", "\x03\x00\x02\xff\x80abcdefgh"} {
			agrees(t, read(t, text), input, 2000, 2000)
		}
	}
}
