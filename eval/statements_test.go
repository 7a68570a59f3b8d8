package eval

import (
	"fmt"
	"math/big"
	"strings"
	"testing"

	"pairlegal/api"
)

// K4

// helpers has what the mains of these tests call: say tells a digit, and answers it.
const helpers = "i16 say(i16 n) { put(48 + n); return n; } i16 x; i16 a[5]; "

// says: what a main of these statements tells.
func says(t *testing.T, body, told string) {
	t.Helper()
	tells(t, helpers+"void main() { "+body+" }", "", told, 0, 0)
}

func TestEachStatement(t *testing.T) {
	for _, c := range [][2]string{
		{"", ""}, {";", ""}, {"; say(1); ;", "1"}, {"say(1); say(2);", "12"}, {"5; say(1);", "1"}, {"put(49);", "1"},
		{"i16 y; say(y);", "0"}, {"i16 y = 3; say(y);", "3"}, {"u8 y = 260; say(y);", "4"}, {"i16 y = say(1) + 1; say(y);", "12"}, {"i16 y = 3; u8 z = y + 1; say(z); say(y);", "43"}, {"i8 y = 255; say(-y);", "1"},
		{"x = 4; say(x);", "4"}, {"x = say(3); say(x + 1);", "34"}, {"u8 y; y = 258; say(y);", "2"}, {"i16 y = 1; y = y + y; y = y + y; say(y);", "4"}, {"a[3] = 7; say(a[3]); say(a[2]); say(a[4]);", "700"}, {"a[say(1)] = say(2); say(a[1] + 1);", "123"}, {"x = 2; a[x] = x; x = a[x] + 1; say(x); say(a[2]);", "32"},
		{"if (1) say(1);", "1"}, {"if (0) say(1);", ""}, {"if (say(1)) say(2); else say(3); say(4);", "124"}, {"if (say(0)) say(2); else say(3); say(4);", "034"}, {"if (-1) { say(1); say(2); }", "12"}, {"if (65536) say(1);", "1"}, {"if ((u64)1 << 63) say(1); else say(2);", "1"}, {"if ((u8)256) say(1); else say(2);", "2"}, {"if (x) say(1); else if (!x) say(2); else say(3);", "2"},
		{"x = 3; while (say(x)) { x = x - 1; }", "3210"}, {"while (0) { say(1); } say(2);", "2"}, {"while (4294967296) { say(1); break; }", "1"},
		{"for (x = 0; x < 3; x = x + 1) { say(x); } say(x);", "0123"}, {"for (say(1); say(0); say(2)) { say(3); } say(4);", "104"}, {"for (x = 0; say(x) < 2; say(x + 5)) { x = x + 1; }", "06172"}, {"for (a[0] = 3; a[0]; a[0] = a[0] - 1) { say(a[0]); }", "321"},
		{"{ say(1); { say(2); } } say(3);", "123"}, {"{ }", ""}, {"return; say(1);", ""}, {"say(1); return;", "1"},
	} {
		says(t, c[0], c[1])
	}
}

// TestFors: with and without each of its parts; each one that is there tells that it is come to.
func TestFors(t *testing.T) {
	for has := range 16 {
		part := func(bit int, s string) string {
			if has&bit != 0 {
				return s
			}
			return ""
		}
		// The body counts rounds, and leaves in the third one.
		s := "for (" + part(1, "say(1)") + "; " + part(2, "say(2)") + "; " + part(4, "say(4)") + ") { " + part(8, "say(8);") + " x = x + 1; if (x == 3) break; }"
		want := part(1, "1")
		for round := range 3 {
			want += part(2, "2") + part(8, "8")
			if round < 2 {
				want += part(4, "4")
			}
		}
		says(t, s+" say(9);", want+"9")
		// So where X tells that it ends, which it does ahead of the body.
		if has&2 != 0 {
			says(t, strings.Replace(s, "say(2)", "say(x + 5) < 7", 1)+" say(9);", part(1, "1")+"5"+part(8, "8")+part(4, "4")+"6"+part(8, "8")+part(4, "4")+"7"+"9")
		}
		agrees(t, read(t, helpers+"void main() { "+s+" }"), "", enough, 300)
	}
	// Without a body, or without anything.
	says(t, "for (; x < 3; x = x + 1) ; say(x);", "3")
	says(t, "for (; x < 3; x = x + 1) { } say(x);", "3")
	says(t, "for (x = 5; 0; x = 6) { x = 7; } say(x);", "5")
	says(t, "for (;;) break; say(1);", "1")
	runs(t, read(t, "void main() { for (;;) { } }"), "", 1000, api.Told{How: api.RanFuel, Ticks: 1000})
	runs(t, read(t, "void main() { for (;;) ; }"), "", 1000, api.Told{How: api.RanFuel, Ticks: 1000})
	runs(t, read(t, "void main() { while (1) { } }"), "", 1000, api.Told{How: api.RanFuel, Ticks: 1000})
	runs(t, read(t, "void main() { for (;;) { continue; } }"), "", 1000, api.Told{How: api.RanFuel, Ticks: 1000})
}

// TestWaysOut: of each kind of block and loop, by each kind of statement that leaves; ways out of these have what is told.
func TestWaysOut(t *testing.T) {
	leaving := []string{"break;", "continue;", "return;", ";"}
	blocks := []string{
		"S", "{ S say(3); }", "if (1) { S say(3); }", "if (0) { } else { S say(3); }", "{ { { S } say(3); } say(4); }", "if (1) { if (0) ; else { S } say(3); }", "{ i16 y = 1; S say(y); }", "if (x == 1) { S } say(3);",
	}
	for _, b := range blocks {
		for _, s := range leaving {
			inner := strings.Replace(b, "S", s, 1)
			for _, loop := range []string{"while (x < 3) { x = x + 1; say(x); B say(5); }", "for (; x < 3; say(6)) { x = x + 1; say(x); B say(5); }", "for (x = 0; ; x = x + 1) { if (x > 3) break; say(x); B say(5); }"} {
				in := strings.Replace(loop, "B", inner, 1)
				wayOut(t, "void main() { "+in+" say(7); }")
				wayOut(t, "i16 f() { "+strings.Replace(in, "return;", "return 8;", 1)+" say(7); } void main() { say(f()); say(9); }")
				for _, outer := range []string{"while (x < 9) { B x = x + 4; say(8); }", "i16 k; for (k = 0; k < 3; k = k + 1) { B say(8); }", "{ B say(8); }", "if (!x) { B say(8); } else { }"} {
					wayOut(t, "void main() { "+strings.Replace(outer, "B", in, 1)+" say(7); }")
				}
			}
		}
	}
}

// wayOut holds a text behind helpers against the model.
func wayOut(t *testing.T, text string) {
	t.Helper()
	agrees(t, read(t, helpers+text), "", enough, 0)
}

func TestWaysOutByHand(t *testing.T) {
	for _, c := range [][2]string{
		// SBreak leaves the innermost loop alone, and no block that is none.
		{"while (1) { say(1); break; say(2); } say(3);", "13"}, {"for (;;) { say(1); break; say(2); } say(3);", "13"}, {"for (;; say(4)) { say(1); break; } say(3);", "13"}, {"while (1) { { if (1) { break; } say(2); } say(4); } say(3);", "3"}, {"while (1) { if (0) { } else { break; } say(4); } say(3);", "3"},
		{"for (x = 0; x < 2; x = x + 1) { while (1) { say(1); break; } say(2); }", "1212"}, {"while (x < 2) { for (;; say(9)) { say(1); break; } x = x + 1; say(2); }", "1212"}, {"for (x = 0; x < 2; x = x + 1) { for (;;) { for (;;) { break; } say(1); break; } say(2); }", "1212"}, {"while (1) { while (1) { break; } say(1); break; } say(2);", "12"},
		// SContinue leaves its Body alone: X is asked again, and of SFor Step is done ahead of that.
		{"while (say(x) < 3) { x = x + 1; continue; say(9); }", "0123"}, {"for (x = 0; x < 3; x = x + 1) { say(x); continue; say(9); } say(4);", "0124"}, {"for (; say(x) < 2; say(7)) { x = x + 1; { if (1) { continue; } } say(9); }", "07172"}, {"for (x = 0; x < 4; x = x + 1) { if (x == 1) continue; say(x); }", "023"},
		{"for (x = 0; x < 2; x = x + 1) { i16 k; for (k = 0; k < 2; k = k + 1) { continue; } say(k); }", "22"}, {"while (x < 2) { x = x + 1; while (say(0)) { } continue; say(9); } say(3);", "003"},
		// SReturn leaves all of them.
		{"while (1) { say(1); return; } say(9);", "1"}, {"for (;; say(9)) { { if (1) { return; } } } say(9);", ""}, {"while (1) { for (;;) { while (1) { return; } } } say(9);", ""}, {"if (1) { return; } say(9);", ""}, {"{ return; } say(9);", ""}, {"if (0) { } else { return; } say(9);", ""},
		// One within the other.
		{"for (x = 0; x < 9; x = x + 1) { if (x == 1) continue; if (x == 4) break; say(x); while (1) { if (x == 2) { break; } say(8); break; } } say(5);", "082385"},
	} {
		says(t, c[0], c[1])
	}
	// A way out of a function is none of its caller's loop.
	tells(t, helpers+"void f() { while (1) { break; } } void g() { for (x = 0; x < 1; x = x + 1) { continue; } } i16 h() { while (1) { return 1; } } void main() { i16 k; for (k = 0; k < 3; k = k + 1) { f(); g(); h(); say(k); } }", "", "012", 0, 0)
}

// TestReturned: with and without Has, and from within.
func TestReturned(t *testing.T) {
	for _, c := range []struct {
		f    string
		want uint64
	}{
		{"i16 f() { return 3; }", 3}, {"i16 f() { return 3; return 4; }", 3}, {"i16 f() { { return 3; } return 4; }", 3}, {"i16 f() { while (1) { return 3; } return 4; }", 3}, {"i16 f() { for (;;) { if (1) { return 3; } } }", 3}, {"i16 f() { if (0) { return 3; } else { return 5; } }", 5}, {"i16 f() { for (x = 0; ; x = x + 1) { if (x == 7) return x; } }", 7},
		{"i16 f() { }", 0}, {"i16 f() { 3; }", 0}, {"i16 f() { while (0) { return 3; } }", 0}, {"i16 f() { return g(); } i16 g() { return 6; }", 6}, {"i16 f() { g(); } i16 g() { return 6; }", 0}, {"i16 f() { h(); return 2; } void h() { return; }", 2}, {"i16 f() { h(); } void h() { g(); return; } i16 g() { return 6; }", 0},
	} {
		tells(t, helpers+c.f+" i64 main() { return f(); }", "", "", 0, c.want)
	}
}

// TestNumbersOfEachType: SDecl, SSet of a local, of a variable of all and of an array's place convert to their types.
func TestNumbersOfEachType(t *testing.T) {
	for _, from := range allTypes {
		for _, to := range allTypes {
			for _, n := range edges(from) {
				setting(t, n, from, to)
			}
		}
	}
}

func setting(t *testing.T, n *big.Int, from, to api.Type) {
	t.Helper()
	x := written(n, from)
	declared := api.Stat{Kind: api.SDecl, Type: to, Name: "l", Has: true, X: x}
	bare := api.Stat{Kind: api.SDecl, Type: to, Name: "l"}
	for _, c := range []struct {
		body []api.Stat
		x    api.Expr
	}{
		{list(declared), name("l")}, {list(bare, api.Stat{Kind: api.SSet, Name: "l", X: x}), name("l")}, {list(api.Stat{Kind: api.SSet, Name: "g", X: x}), name("g")}, {list(api.Stat{Kind: api.SSet, Name: "a", Has: true, I: num(1), X: x}), at("a", num(1))},
	} {
		p := answering(c.x, api.Global{Type: to, Name: "g"}, api.Global{Type: to, Name: "a", Size: 3})
		p.Funcs[0].Body = append(c.body, p.Funcs[0].Body...)
		answers(t, p, wrapped(n, to), n, from, to, len(c.body), c.x.Name)
		// It is of that type, too.
		p = answering(two(api.CShr, c.x, num(1)), p.Globals...)
		p.Funcs[0].Body = append(c.body, p.Funcs[0].Body...)
		want, _ := twoKids(api.CShr, meant{wrapped(n, to), to}, meant{big.NewInt(1), i16t})
		answers(t, p, want.n, n, from, to, len(c.body), c.x.Name)
	}
	p := answering(name("l"))
	p.Funcs[0].Body = append(list(bare), p.Funcs[0].Body...)
	answers(t, p, big.NewInt(0), to)
}

// TestNames: what one stands for, in blocks and rounds.
func TestNames(t *testing.T) {
	for _, c := range [][2]string{
		// A local hides a variable of all from behind its SDecl to the end of its block.
		{"x = 1; { say(x); i16 x = 5; say(x); x = 6; say(x); } say(x);", "1561"}, {"x = 1; { i16 x = x + 1; say(x); } say(x);", "21"}, {"x = 1; if (1) { i16 x = 5; say(x); } say(x);", "51"}, {"x = 1; if (0) { } else { i16 x = 5; say(x); } say(x);", "51"}, {"x = 3; while (x) { x = x - 1; i16 x = 7; say(x); x = 0; } say(x);", "7770"},
		{"for (x = 0; x < 2; x = x + 1) { say(x); i16 x = 8; say(x); x = 9; }", "0818"}, {"x = 4; { u8 x = 300 - 43; say(x); x = x + 255; say(x); } say(x);", "104"}, {"x = 2; { { i16 x = 3; say(x); } say(x); } say(x);", "322"}, {"x = 1; { i16 x = 2; { x = 3; } say(x); } say(x);", "31"}, {"{ i16 x = 5; } x = x + 1; say(x);", "1"},
		{"a[1] = 3; { i16 a = 5; say(a); } say(a[1]);", "53"}, {"i16 say = 4; say(say);", "4"}, {"x = 1; i16 y = x; i16 x = y + 1; say(x); say(y);", "21"},
		// In each round it is declared anew.
		{"for (x = 0; x < 3; x = x + 1) { i16 y; say(y); y = y + 5; say(y); }", "050505"}, {"while (x < 3) { x = x + 1; i16 y = x; say(y); y = 9; }", "123"}, {"while (x < 2) { x = x + 1; { i16 y; y = y + 1; say(y); } if (1) { i16 z; z = z + 2; say(z); } }", "1212"}, {"for (x = 0; x < 3; x = x + 1) { i16 y; if (x == 1) continue; y = 4; say(y + x); }", "46"},
		// Outside of a loop it stays.
		{"i16 y; for (x = 0; x < 3; x = x + 1) { y = y + x; } say(y);", "3"}, {"i16 y = 5; { i16 z = y; y = 6; say(z); } say(y);", "56"},
	} {
		says(t, c[0], c[1])
	}
	// Names of one function are none of another one's, nor of another call's.
	tells(t, helpers+"void f(i16 y) { i16 z; say(y); say(z); z = 7; y = 8; x = x + 1; } void main() { i16 y = 1; i16 z = 2; f(3); say(y); say(z); f(z); say(x); }", "", "3012202", 0, 0)
	tells(t, helpers+"void f(i16 n) { i16 m; m = m + n; if (n) { f(n - 1); } say(m); say(n); } void main() { f(2); }", "", "001122", 0, 0)
	tells(t, helpers+"void f(i16 x) { say(x); x = 5; say(x); g(); } void g() { say(x); x = 6; } void main() { f(4); say(x); }", "", "4506", 0, 0)
	tells(t, helpers+"void f(u8 n, i16 x) { if (n) { i16 y = n; f(n - 1, y * 2); say(y); say(x); } } void main() { i16 y = 9; f(2, y); say(y); }", "", "14299", 0, 0)
}

// TestTheMostLocals: as many words as a function may have, each number where it belongs.
func TestTheMostLocals(t *testing.T) {
	var body, sum strings.Builder
	want := 0
	for i := range 196 {
		fmt.Fprintf(&body, "u16 l%d = %d; ", i, i*3)
		want += i * 3 % 251 * (i % 7)
	}
	for i := range 196 {
		fmt.Fprintf(&sum, "s = s + l%d %% 251 * %d; ", i, i%7)
	}
	tells(t, "u64 f(u64 s) { "+body.String()+sum.String()+" return s; } u64 main() { return f(5); }", "", "", 0, uint64(want)+5)
}

// TestSets: the place ahead of the number, which is set last.
func TestSets(t *testing.T) {
	for _, c := range [][2]string{
		{"a[say(1)] = say(2);", "12"}, {"x = 1; a[x] = f(); say(a[1]); say(a[2]); say(x);", "702"}, {"a[0] = 4; a[0] = a[0] + 1; say(a[0]);", "5"}, {"a[1] = 2; a[a[1]] = a[1] + 1; say(a[2]);", "3"}, {"x = x + f() + x; say(x);", "9"},
	} {
		tells(t, helpers+"i16 f() { x = 2; return 7; } void main() { "+c[0]+" }", "", c[1], 0, 0)
	}
	trapsTelling(t, helpers+"void main() { a[say(5)] = say(1); }", "5", api.TrapPlace)
	trapsTelling(t, helpers+"void main() { a[say(4)] = say(1) / x; }", "41", api.TrapZero)
	// What was not set yet stays when a run ends.
	trapsTelling(t, "i16 x = 5; i16 n; i16 f() { return 1 / n; } void main() { put(x); x = f(); put(x); }", "\x05", api.TrapZero)
}
