package build

import (
	"fmt"
	"testing"

	"pairlegal/api"
	"pairlegal/eval"
)

// L2: statements

// helpers are functions that the programs of these tests have ahead of main: say tells its number and answers it, so that it is seen in which order things are done.
const helpers = "i16 x = 3; u8 a[9]; i16 say(i16 n) { put(n); return n; } "

func TestStatementsByHand(t *testing.T) {
	for _, c := range []struct{ body, output string }{
		{"", ""}, {";", ""}, {"{ }", ""}, {"{ ; { put(65); } }", "A"}, {"1;", ""}, {"x;", ""}, {"put(x);", "\x03"}, {"say(66);", "B"},
		{"i16 y; put(y);", "\x00"}, {"i16 y = 5; put(y);", "\x05"}, {"u8 y = 261; put(y); put(y >> 8);", "\x05\x00"}, {"i16 y = 7; u64 z = y + 1; put(z); put(y);", "\x08\x07"},
		{"x = 9; put(x);", "\x09"}, {"i16 y; y = 9; put(y); put(x);", "\x09\x03"}, {"i16 x = x + 1; put(x); x = x + 1; put(x);", "\x04\x05"}, {"{ i16 x = 8; put(x); x = 7; } put(x);", "\x08\x03"},
		{"a[0] = 1; a[8] = 2; put(a[0]); put(a[8]); put(a[7]);", "\x01\x02\x00"}, {"a[say(1)] = say(2); put(a[1]);", "\x01\x02\x02"}, {"a[a[0]] = 5; a[a[0]] = 6; put(a[0]); put(a[5]);", "\x05\x06"},
		{"if (x) put(65);", "A"}, {"if (x - 3) put(65);", ""}, {"if (x) put(65); else put(66);", "A"}, {"if (!x) put(65); else put(66);", "B"}, {"if (x == 1) put(65); else if (x == 3) put(66); else put(67);", "B"},
		{"if (x) { i16 y = 1; put(y); } else { i16 z = 2; put(z); } put(9);", "\x01\x09"}, {"if (!x) { i16 y = 1; put(y); } else { i16 z = 2; put(z); } put(9);", "\x02\x09"}, {"if (x) i16 y = 4; put(5);", "\x05"},
		{"while (x) { put(x); x = x - 1; }", "\x03\x02\x01"}, {"while (!x) put(1);", ""}, {"while (x) { x = x - 1; if (x == 1) continue; put(x); }", "\x02\x00"}, {"while (1) { x = x + 1; if (x > 5) break; put(x); }", "\x04\x05"},
		{"while (x) { i16 y = x; u64 z = y; x = x - 1; if (y == 2) { i32 w; continue; } put(z); }", "\x03\x01"}, {"while (x) { u64 y = x; { u32 z = y; if (z == 1) { i16 w = 5; break; } x = x - 1; } put(y); } put(x);", "\x03\x02\x01"},
		{"for (;;) break;", ""}, {"for (x = 0; x < 3; x = x + 1) put(x);", "\x00\x01\x02"}, {"for (; x; x = x - 1) { }", ""}, {"for (say(1); x; say(2)) x = x - 1;", "\x01\x02\x02\x02"}, {"for (x = 5; ; x = x - 1) if (x == 2) break; put(x);", "\x02"},
		{"for (x = 0; x < 4; x = x + 1) { if (x == 1) continue; put(x); }", "\x00\x02\x03"}, {"for (a[0] = 2; a[0]; a[0] = a[0] - 1) put(a[0]);", "\x02\x01"}, {"for (;x;) { i64 y = x; x = x - 1; if (x == 1) { u8 z; continue; } put(y); }", "\x03\x01"},
		{"i16 i; i16 j; for (i = 0; i < 3; i = i + 1) for (j = 0; j < 3; j = j + 1) { if (j == i) break; put(i); put(j); }", "\x01\x00\x02\x00\x02\x01"},
		{"i16 i; i16 j; for (i = 0; i < 3; i = i + 1) { u32 k = i; while (1) { u64 l = k; j = j + 1; if (j < 2) continue; break; } put(k); }", "\x00\x01\x02"},
		{"return;", ""}, {"put(1); return; put(2);", "\x01"}, {"{ i16 y; { i64 z; return; } }", ""}, {"while (1) { i16 y = 5; put(y); { u64 z; return; } }", "\x05"}, {"for (;;) { u8 y; if (x) return; }", ""},
	} {
		halts(t, helpers+"void main() { "+c.body+" }", "", c.output, 0)
	}
}

// TestLocalsOfEachBlock: what lies on the stack when a block is left, however that is.
func TestLocalsOfEachBlock(t *testing.T) {
	for _, way := range []string{"", "break;", "continue;", "if (n == 2) break;", "if (n == 2) continue;", "if (n == 2) return 7;", "{ i64 deep = 4; if (n) { i32 deeper; break; } }", "{ u8 deep; u64 more; if (n) { continue; } }", "{ u8 deep; u64 more; if (n == 3) { return 9; } }", "while (1) { i16 within; break; }", "for (;;) { u32 within; if (n) break; else return 1; }"} {
		for _, loop := range []string{"while (n) {", "for (; n; put(n)) {", "for (n = 3; n; ) {", "for (;;) { if (!n) break;"} {
			text := "i16 n = 4; u32 f(i8 p, u64 q) { u16 first = 500u; " + loop + " u32 second = 70000u; n = n - 1; put(first); put(second); put(p); put(q >> 8); " + way + " put(first >> 8); put(second >> 8); } put(first); put(p); put(q); return q; } i16 main() { u64 guard = 65; u32 r = f(-5, 258); put(guard); put(r); put(r >> 8); return 0; }"
			comesToEnd(t, read(t, text), "")
		}
	}
}

// TestReturns: at each place of a function, of each type, and at its end.
func TestReturns(t *testing.T) {
	for _, is := range allTypes {
		n := typeName(is)
		halts(t, n+" f() { return 65; } void main() { put(f()); }", "", "A", 0)
		halts(t, n+" f() { } void main() { put(65 + f()); put(f() >> 8); }", "", "A\x00", 0)
		halts(t, n+" f() { u64 x = 4; if (x == 3) { return 65; } } void main() { put(f() == 0); }", "", "\x01", 0)
		halts(t, n+" f(u64 q, u8 p) { i64 x = 5; while (1) { "+n+" y = 66; if (x) { return y + p - q; } } } void main() { put(f(4, 3)); }", "", "A", 0)
		halts(t, n+" main() { return -1; }", "", "", 0)
		comesToEnd(t, read(t, n+" f() { return -1; } u64 r; void main() { r = f(); put(r); put(r >> 8); put(r >> 24); put(r >> 40); put(r >> 56); }"), "")
	}
}

// TestFirstNumbers: variables of all, with numbers or without, one behind the other.
func TestFirstNumbers(t *testing.T) {
	halts(t, "u8 a = 300; i8 b = -1; u16 c; i16 d = 5; void main() { put(a); put(b); put(b >> 8); put(c); put(d); }", "", "\x2c\xff\xff\x00\x05", 0)
	halts(t, "u8 a[3] = {1, 2}; i64 b[2] = {-1, 5}; i32 c = 7; void main() { put(a[0]); put(a[1]); put(a[2]); put(b[0] >> 60); put(b[1]); put(c); }", "", "\x01\x02\x00\xff\x05\x07", 0)
	halts(t, "i16 a[4] = {}; u64 b; i16 c[1] = {9}; void main() { put(a[3]); put(b); put(c[0]); }", "", "\x00\x00\x09", 0)
	halts(t, "u64 a[2000]; void main() { put(a[1999]); a[1999] = 70000; put(a[1999]); put(a[1998]); put(a[1999] >> 16); }", "", "\x00\x70\x00\x01", 0)
}

// TestNumbersOfAllTypes: at first, each edge of each type as each type.
func TestNumbersOfAllTypes(t *testing.T) {
	for _, from := range allTypes {
		for _, to := range allTypes {
			l := edges(from)
			text := fmt.Sprintf("%s a[%d] = {%s}; %s b = %s; %s void main() { i16 k; for (k = 0; k < %d; k = k + 1) tell(a[k]); tell(b); }", typeName(to), len(l), texts(l, from), typeName(to), text(l[len(l)-1], from), tell, len(l))
			comesToEnd(t, read(t, text), "")
		}
	}
}

// tell is a function that tells all bytes of a number.
const tell = "void tell(u64 n) { i16 k; for (k = 0; k < 8; k = k + 1) { put(n); n = n >> 8; } }"

// TestEachFuel: programs with much in them, with each fuel up to one more than they take.
func TestEachFuel(t *testing.T) {
	for _, text := range []string{
		"void main() { }", "i16 main() { put(65); return 7; }", "void main() { put(get()); put(get()); }", "void main() { put(66); 1 / get(); }",
		"u8 a[3]; void main() { i16 k; for (k = 0; k < 9; k = k + 1) { a[k] = get(); put(a[k] + 1); } }",
		"i16 f(i16 n) { put(n); if (n > 3) return n; { i16 m = f(n + 1) + f(n + 2); put(m); return m; } } i16 main() { return f(0); }",
		"void f() { put(1); f(); } void main() { f(); }", "void main() { put(3 * 5); put(100 / 7); put(1 << 4); }",
	} {
		p := read(t, text)
		image := built(t, p)
		for _, input := range []string{"", "\x00", "abc"} {
			told, _ := eval.Run(p, []byte(input), api.MaxTicks)
			r := ran(t, p, image, told, input, api.MaxFuel)
			for fuel := range r.Steps + 2 {
				ran(t, p, image, told, input, fuel)
			}
		}
	}
}

// TestWhatDoesNotEnd: the run does not, either.
func TestWhatDoesNotEnd(t *testing.T) {
	for _, text := range []string{"void main() { while (1) { } }", "void main() { for (;;) ; }", "void main() { for (;;) { i64 x; continue; } }", "i16 x; void main() { put(65); while (x == 0) { u8 y = 3; } put(66); }", "void f() { } void main() { while (!get() || 1) f(); }", "void main() { u64 x; for (;;) { x = x + 1; { i16 y; } } }"} {
		if r, _ := does(t, read(t, text), "abc"); r.How != api.RanFuel || r.Steps != api.MaxFuel {
			t.Errorf("how %d after %d steps comes of %s", r.How, r.Steps, text)
		}
	}
}

// TestDeepStatements: nested as deep as they may be, with something declared at each level.
func TestDeepStatements(t *testing.T) {
	for _, s := range []api.Stat{{Kind: api.SIf, X: num(1)}, {Kind: api.SIf, X: num(0)}, {Kind: api.SBlock}, {Kind: api.SFor}, {Kind: api.SWhile, X: num(1)}} {
		inner := list(put(name("v0")), put(name("v48")), put(name("v95")), api.Stat{Kind: api.SReturn})
		for n := range api.MaxShape - 4 {
			if s.Kind == api.SIf && s.X.N == 0 {
				s.Else = inner
			} else {
				s.Body = inner
			}
			inner = list(api.Stat{Kind: api.SDecl, Type: []api.Type{u8t, i32t}[n%2], Name: fmt.Sprint("v", n), Has: true, X: num(uint64(n))}, s)
		}
		p := api.Program{Funcs: []api.Func{mainOf(inner...)}}
		if r := comesToEnd(t, p, ""); string(r.Output) != "\x00\x30\x5f" {
			t.Errorf("%q comes of statements of kind %d", r.Output, s.Kind)
		}
	}
}
