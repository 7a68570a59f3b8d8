package eval

import (
	"bytes"
	"fmt"
	"math/big"
	"strings"
	"testing"

	"pairlegal/api"
)

// K3

// global is a variable of all of a type that has n.
func global(s string, n *big.Int, t api.Type) api.Global {
	return api.Global{Type: t, Name: s, Init: []api.Expr{written(n, t)}}
}

// answers holds what an expression tells, as a number of 64 bits, against what it must.
func answers(t *testing.T, p api.Program, want *big.Int, what ...any) {
	t.Helper()
	got, f := Run(p, nil, enough)
	if f != (api.Fault{}) || got.How != api.RanHalt || got.Result != bits(want, u64t) {
		t.Errorf("%+v, %v comes, not %v, of %v", got, f, want, what)
	}
}

// TestTwoKids: each kind, of numbers of each pair of types, at and next to their bounds.
func TestTwoKids(t *testing.T) {
	for kind := api.CMul; kind <= api.CLor; kind++ {
		for _, x := range allTypes {
			for _, y := range allTypes {
				for _, a := range edges(x) {
					for _, b := range edges(y) {
						twoAgree(t, kind, meant{a, x}, meant{b, y})
					}
				}
			}
		}
	}
}

// twoAgree holds a kind with two kids against the model; variables tell them, so nothing is known ahead.
func twoAgree(t *testing.T, kind int, a, b meant) {
	t.Helper()
	p := answering(two(kind, name("a"), name("b")), global("a", a.n, a.is), global("b", b.n, b.is))
	switch kind {
	case api.CLand:
		answers(t, p, truth(a.n.Sign() != 0 && b.n.Sign() != 0).n, kind, a, b)
		return
	case api.CLor:
		answers(t, p, truth(a.n.Sign() != 0 || b.n.Sign() != 0).n, kind, a, b)
		return
	}
	if want, ok := twoKids(kind, a, b); ok {
		answers(t, p, want.n, kind, a, b)
		return
	}
	runs(t, p, "", enough, api.Told{How: api.RanTrap, Trap: api.TrapZero, Ticks: 4})
}

// TestOneKid: so, of kinds with one.
func TestOneKid(t *testing.T) {
	for _, x := range allTypes {
		for _, a := range edges(x) {
			for kind := api.CNeg; kind <= api.CLog; kind++ {
				answers(t, answering(one(kind, name("a")), global("a", a, x)), oneKid(api.Expr{Kind: kind}, meant{a, x}).n, kind, a, x)
			}
			for _, to := range allTypes {
				answers(t, answering(cast(to, name("a")), global("a", a, x)), wrapped(a, to), to, a, x)
			}
		}
	}
}

// TestTypesWithinOneAnother: what a kind tells is of a type of its own, which tells in the next one.
func TestTypesWithinOneAnother(t *testing.T) {
	three := big.NewInt(3)
	for _, x := range allTypes {
		for _, a := range edges(x) {
			for _, y := range allTypes {
				// A product of 32 bits, say, is cut ahead of being taken apart by one of 64.
				for kind := api.CMul; kind <= api.COr; kind++ {
					inner, ok := twoKids(kind, meant{a, x}, meant{three, y})
					if !ok {
						continue
					}
					want, _ := twoKids(api.CShr, inner, meant{three, i16t})
					answers(t, answering(two(api.CShr, two(kind, name("a"), cast(y, num(3))), num(3)), global("a", a, x)), want.n, kind, a, x, y)
				}
				for kind := api.CNeg; kind <= api.CLog; kind++ {
					inner := oneKid(api.Expr{Kind: kind}, meant{a, x})
					want, _ := twoKids(api.CAdd, inner, meant{three, y})
					answers(t, answering(two(api.CAdd, one(kind, name("a")), cast(y, num(3))), global("a", a, x)), want.n, kind, a, x, y)
				}
				inner := oneKid(cast(y, num(0)), meant{a, x})
				want, _ := twoKids(api.CSub, inner, meant{three, i16t})
				answers(t, answering(two(api.CSub, cast(y, name("a")), num(3)), global("a", a, x)), want.n, a, x, y)
			}
		}
	}
	for _, kind := range []int{api.CLand, api.CLor} {
		x := two(kind, cast(u64t, num(5)), cast(u64t, num(7)))
		answers(t, answering(two(api.CSub, x, num(2))), big.NewInt(-1), kind)
		answers(t, answering(two(api.CShr, two(api.CSub, x, num(2)), num(1))), big.NewInt(-1), kind)
	}
}

func TestExpressionsByHand(t *testing.T) {
	for _, c := range []struct {
		x    string
		want int64
	}{
		{"7", 7}, {"65535u", 65535}, {"70000", 70000}, {"x", -5}, {"a[1]", 200}, {"b[2]", -3}, {"(u8)x", 251}, {"(i8)a[1]", -56}, {"(u16)x", 65531}, {"-x", 5}, {"~x", 4}, {"!x", 0}, {"!(x + 5)", 1}, {"-a[1]", -200}, {"~a[1]", -201}, {"-65535u", 1},
		{"x * 3", -15}, {"x / 2", -2}, {"x % 2", -1}, {"a[1] * a[1]", -25536}, {"a[1] + a[1]", 400}, {"x - 1u", 65530}, {"x < 1u", 0}, {"x < 1", 1}, {"32767 + 1", -32768}, {"(i32)32767 + 1", 32768}, {"1 << 15", -32768}, {"1u << 15", 32768}, {"1 << 16", 0}, {"1 << -1", 0}, {"x >> 1", -3}, {"x >> 99", -1}, {"(u16)x >> 1", 32765}, {"a[1] << 8", -14336},
		{"x & 7", 3}, {"x | 8", -5}, {"x ^ x", 0}, {"x == -5", 1}, {"x == 65531u", 1}, {"x == 65531", 0}, {"x != -5", 0}, {"x <= -5", 1}, {"x >= -4", 0}, {"x > -6", 1}, {"2 && 4", 1}, {"0 || 4", 1}, {"0 || 0", 0}, {"2 && 0", 0}, {"65536 && 1", 1}, {"(u64)1 << 40 && 1", 1}, {"(u64)1 << 40 || 0", 1},
		{"f(300)", 45}, {"f(-1)", 256}, {"f(x) * 2", 504}, {"nothing()", 0}, {"get()", -1},
	} {
		tells(t, "i16 x = -5; u8 a[3] = {100, 200}; i32 b[3] = {0, 0, -3}; i16 f(u8 n) { return n + 1; } i16 nothing() { } i64 main() { return "+c.x+"; }", "", "", 0, uint64(c.want))
	}
}

// TestNought: each type's, as what divides, whatever is divided.
func TestNought(t *testing.T) {
	for _, x := range allTypes {
		for _, y := range allTypes {
			for _, kind := range []int{api.CDiv, api.CRem} {
				for _, a := range edges(x) {
					runs(t, answering(two(kind, name("a"), name("b")), global("a", a, x), api.Global{Type: y, Name: "b"}), "", 4, api.Told{How: api.RanTrap, Trap: api.TrapZero, Ticks: 4})
				}
			}
		}
	}
	traps(t, "i16 main() { put(1); return 5 / (u8)256; put(2); }", "", api.Told{Trap: api.TrapZero, Output: []byte{1}, Ticks: 8})
	traps(t, "i16 main() { put(7 % (3 - 3)); }", "", api.Told{Trap: api.TrapZero, Ticks: 7})
	// What is not 0 as it stands, but as a number of the common type, can't be: that is never narrower.
	tells(t, "i16 main() { return 5 / (i8)-128 + 65536 / 65536 + 5 % (u8)255; }", "", "", 0, 6)
	// All of these end a run from wherever they stand.
	for _, s := range []string{"1 / 0;", "x = 1 / 0;", "a[1 / 0] = 1;", "a[0] = 1 / 0;", "i16 y = 1 / 0;", "if (1 / 0) { put(2); } else { put(3); }", "while (1 / 0) { put(2); }", "for (x = 1 / 0; ; ) { put(2); }", "for (; 1 / 0; ) { put(2); }", "for (; ; x = 1 / 0) { }", "for (;;) { 1 / 0; }", "while (1) { { 1 / 0; } }", "return 1 / 0;", "f(1 / 0);", "f(f(1 % 0));", "put(1 / 0);", "-(1 / 0);", "!(1 / 0);", "(u8)(1 / 0);", "a[1 / 0];", "1 / 0 && f(2);", "1 && 1 / 0;", "1 / 0 || f(2);", "0 || 1 / 0;", "1 / 0 + f(2);", "2 * (1 / 0);", "h();", "h() + f(2);", "x = h();", "{ i16 z = h(); f(2); }"} {
		trapsTelling(t, "i16 x; i16 a[3]; i16 f(i16 n) { put(n); return n; } i16 h() { while (1) { return 5 % x; } } i16 main() { f(1); "+s+" f(4); }", "\x01", api.TrapZero)
	}
}

// TestPlaces: of arrays of some sizes, at their ends and behind them, read and set.
func TestPlaces(t *testing.T) {
	for _, size := range []int{1, 2, 3, 255, 256, 257, 8000} {
		array := api.Global{Type: u16t, Name: "a", Size: size}
		for _, i := range []int{0, size - 1} {
			set := api.Stat{Kind: api.SSet, Name: "a", Has: true, I: num(uint64(i)), X: num(7)}
			p := answering(at("a", num(uint64(i))), array)
			runs(t, p, "", enough, api.Told{How: api.RanHalt, Ticks: 3})
			p.Funcs[0].Body = append(list(set), p.Funcs[0].Body...)
			runs(t, p, "", enough, api.Told{How: api.RanHalt, Ticks: 6, Result: 7})
		}
		for _, i := range []uint64{uint64(size), uint64(size) + 1, 32767, 32768, 65535} {
			p := answering(at("a", num(i)), array)
			runs(t, p, "", enough, api.Told{How: api.RanTrap, Trap: api.TrapPlace, Ticks: 3})
			p.Funcs[0].Body = list(api.Stat{Kind: api.SSet, Name: "a", Has: true, I: num(i), X: num(7)})
			runs(t, p, "", enough, api.Told{How: api.RanTrap, Trap: api.TrapPlace, Ticks: 2})
		}
	}
}

// TestPlacesOfEachType: ahead of being converted they may be below 0, or larger than 65535.
func TestPlacesOfEachType(t *testing.T) {
	array := api.Global{Type: i32t, Name: "a", Size: 3, Init: []api.Expr{num(10), num(20), num(30)}}
	for _, x := range allTypes {
		for _, n := range append(edges(x), big.NewInt(2), big.NewInt(65535), big.NewInt(65536), big.NewInt(65537), big.NewInt(65538), big.NewInt(65539), big.NewInt(-65536), big.NewInt(-65534), big.NewInt(1<<48+1)) {
			n = wrapped(n, x)
			place := bits(n, u16t)
			p := answering(at("a", name("i")), array, global("i", n, x))
			want := api.Told{How: api.RanTrap, Trap: api.TrapPlace, Ticks: 3}
			if place < 3 {
				want = api.Told{How: api.RanHalt, Ticks: 3, Result: 10 + 10*place}
			}
			runs(t, p, "", enough, want)
		}
	}
	for _, c := range []struct {
		i    string
		want uint64
	}{{"65536", 10}, {"65537", 20}, {"-65534", 30}, {"4294967296", 10}, {"18446744073709486082u", 30}, {"(i64)1 << 40", 10}} {
		tells(t, "i16 a[3] = {10, 20, 30}; i16 main() { return a["+c.i+"]; }", "", "", 0, c.want)
		tells(t, "i16 a[3] = {10, 20, 30}; i16 main() { a["+c.i+"] = 60; return a[0] + a[1] + a[2]; }", "", "", 0, 120-c.want)
	}
	for _, i := range []string{"-1", "(i8)-1", "65535", "3", "65539", "(u8)-1", "-65533", "(i64)-1"} {
		trapsTelling(t, "i16 a[3]; i16 main() { put(65); put(a["+i+"]); }", "A", api.TrapPlace)
		trapsTelling(t, "i16 a[3]; i16 main() { put(65); a["+i+"] = put2(); } i16 put2() { put(66); }", "A", api.TrapPlace)
	}
}

// TestSecondKids: of CLand and CLor they are come to only where they are asked.
func TestSecondKids(t *testing.T) {
	const say = "i16 say(i16 n) { put(48 + n); return n; } i64 far(i64 n) { put(65); return n << 40; } "
	for _, c := range []struct {
		x, told string
		want    uint64
	}{
		{"say(0) && say(1)", "0", 0}, {"say(1) && say(0)", "10", 0}, {"say(1) && say(2)", "12", 1}, {"say(0) && say(0)", "0", 0}, {"say(0) || say(1)", "01", 1}, {"say(1) || say(0)", "1", 1}, {"say(2) || say(1)", "2", 1}, {"say(0) || say(0)", "00", 0},
		{"say(0) && say(1) || say(2)", "02", 1}, {"say(1) || say(2) && say(3)", "1", 1}, {"say(1) && say(2) && say(3)", "123", 1}, {"say(1) && say(0) && say(3)", "10", 0}, {"say(0) || say(0) || say(3)", "003", 1}, {"!(say(0) && say(1)) && say(2)", "02", 1},
		{"0 && 1 / 0", "", 0}, {"1 || 1 / 0", "", 1}, {"0 && a[9]", "", 0}, {"1 || a[9]", "", 1}, {"0 && get()", "", 0}, {"far(1) && say(1)", "A1", 1}, {"far(1) || say(1)", "A", 1}, {"say(1) && far(1)", "1A", 1}, {"say(0) || far(1)", "0A", 1}, {"far(0) || say(0)", "A0", 0},
	} {
		tells(t, "i16 a[9]; "+say+"i16 main() { return "+c.x+"; }", "zz", c.told, 0, c.want)
	}
}

// TestOrderOfKids: from the first one on, each kind.
func TestOrderOfKids(t *testing.T) {
	const say = "i16 say(i16 n) { put(48 + n); return n; } i16 all(i16 a, i16 b, i16 c, i16 d, i16 e, i16 f, i16 g, i16 h) { put(65); return a * 2 + h; } "
	for _, sign := range strings.Fields("* / % + - << >> < <= > >= == != & ^ | &&") {
		tells(t, say+"void main() { say(1) "+sign+" say(2); }", "", "12", 0, 0)
		tells(t, say+"void main() { say(3) "+sign+" ((say(1) "+sign+" say(2)) | say(4)); }", "", "3124", 0, 0)
	}
	for _, c := range []struct{ s, told string }{
		{"all(say(1), say(2), say(3), say(4), say(5), say(6), say(7), say(8));", "12345678A"}, {"all(all(say(1), 1, 1, 1, 1, 1, 1, say(2)), say(3), 0, 0, 0, 0, 0, 0);", "12A3A"}, {"a[say(1)] = say(2);", "12"}, {"a[a[say(1)]] = say(2);", "12"}, {"a[say(1)] + a[say(2)];", "12"}, {"a[say(1) + say(2)];", "12"},
		{"say(say(1) + 1) - say(3);", "123"}, {"(say(1) + say(2)) * (say(3) + say(4));", "1234"}, {"say(1) + say(2) * say(3);", "123"}, {"-say(1) + ~say(2) + !say(3) + (u8)say(4);", "1234"}, {"put(say(1) + 65);", "1B"},
	} {
		tells(t, say+"i16 a[9]; void main() { "+c.s+" }", "", c.told, 0, 0)
	}
	// What they take in comes in that order, too.
	tells(t, "i16 main() { return get() * 100 + get() * 10 + get(); }", "\x01\x02\x03\x04", "", 3, 123)
	tells(t, "i16 f(i16 a, i16 b, i16 c) { return a * 100 + b * 10 + c; } i16 main() { return f(get(), get(), get()); }", "\x01\x02\x03", "", 3, 123)
	tells(t, "i16 a[9]; i16 main() { a[get()] = get(); return a[7]; }", "\x07\x09", "", 2, 9)
	// A second kid may change what the first one told already.
	tells(t, "i16 x = 5; i16 f() { x = 7; return 1; } i16 main() { return x * 100 + f() * 10 + x; }", "", "", 0, 517)
	tells(t, "i16 a[2]; i16 x; i16 f() { x = 1; a[0] = 3; return 8; } i16 main() { a[x] = f(); return a[0] * 10 + a[1]; }", "", "", 0, 80)
}

// TestPut: the lower 8 bits, whatever type it is given.
func TestPut(t *testing.T) {
	for _, x := range allTypes {
		for _, n := range edges(x) {
			p := api.Program{Globals: []api.Global{global("a", n, x)}, Funcs: []api.Func{mainOf(put(name("a")))}}
			runs(t, p, "", enough, api.Told{How: api.RanHalt, Output: []byte{byte(bits(n, u8t))}, Ticks: 3})
		}
	}
	tells(t, "void main() { put(0); put(255); put(256); put(257); put(-1); put(65536 + 66); put((i64)1 << 40 | 67); }", "", "\x00\xff\x00\x01\xffBC", 0, 0)
}

// telling is a program that tells so many bytes, in rounds of 256, and answers 5.
func telling(n int) api.Program {
	var body []api.Stat
	for i := range 256 {
		body = append(body, put(num(uint64(i))))
	}
	return api.Program{Globals: []api.Global{{Type: u16t, Name: "left", Init: []api.Expr{num(uint64(n / 256))}}}, Funcs: []api.Func{{Name: "main", Result: i16t, Body: append(list(
		api.Stat{Kind: api.SWhile, X: name("left"), Body: append(body, api.Stat{Kind: api.SSet, Name: "left", X: two(api.CSub, name("left"), num(1))})}),
		append(body[:n%256:n%256], returning(num(5)))...)}}}
}

// TestTheMostBytes: MaxTold of them may be told, and no more.
func TestTheMostBytes(t *testing.T) {
	all := make([]byte, api.MaxTold+1)
	for i := range all {
		all[i] = byte(i)
	}
	ticks := func(n int) int { return 1 + n/256*(2+256*3+4) + 2 + n%256*3 + 2 }
	for _, n := range []int{0, 1, 255, 256, 65535, 65536} {
		want := api.Told{How: api.RanHalt, Output: all[:n], Ticks: ticks(n), Result: 5}
		runs(t, telling(n), "", api.MaxTicks, want)
	}
	// One more ends at the put itself, with all that led up to it; with a tick less it does not come to that.
	last := ticks(65537) - 2
	runs(t, telling(65537), "", api.MaxTicks, api.Told{How: api.RanMuch, Output: all[:api.MaxTold], Ticks: last})
	runs(t, telling(65537), "", last, api.Told{How: api.RanMuch, Output: all[:api.MaxTold], Ticks: last})
	runs(t, telling(65537), "", last-1, api.Told{How: api.RanFuel, Output: all[:api.MaxTold], Ticks: last - 1})
	runs(t, telling(65600), "", api.MaxTicks, api.Told{How: api.RanMuch, Output: all[:api.MaxTold], Ticks: last})
}

// TestTheMostBytesFirst: what put is given is worked out ahead of the asking whether it may be told.
func TestTheMostBytesFirst(t *testing.T) {
	p := telling(65536)
	body := p.Funcs[0].Body
	for _, c := range []struct {
		x    api.Expr
		want api.Told
	}{
		{call("get"), api.Told{How: api.RanMuch, Read: 1}}, {two(api.CDiv, num(1), num(0)), api.Told{How: api.RanTrap, Trap: api.TrapZero}}, {call("f"), api.Told{How: api.RanMuch, Read: 1}},
	} {
		p.Funcs = []api.Func{{Name: "main", Result: i16t, Body: list(body[0], put(c.x), returning(num(1)))}, {Name: "f", Result: i16t, Body: list(expr(call("get")), put(num(1)))}}
		got, _ := Run(p, []byte("abc"), api.MaxTicks)
		if got.How != c.want.How || got.Trap != c.want.Trap || got.Read != c.want.Read || len(got.Output) != api.MaxTold || got.Result != 0 {
			t.Errorf("%d, %d, %d, %d bytes comes, not %+v", got.How, got.Trap, got.Read, len(got.Output), c.want)
		}
	}
}

// echo tells all that comes in, and answers what comes behind it.
const echo = "i16 main() { i16 c = get(); while (c >= 0) { put(c); c = get(); } return c; }"

func TestGet(t *testing.T) {
	for _, input := range []string{"", "a", "abc", "\x00\xff\x80", many("xyz", 99)} {
		tells(t, echo, input, input, len(input), 65535)
	}
	every := make([]byte, 256)
	for i := range every {
		every[i] = byte(i)
		tells(t, "i64 main() { return get(); }", string(every[i:i+1]), "", 1, uint64(i))
	}
	tells(t, echo, string(every), string(every), 256, 65535)
	// Nothing is left as often as it is asked, and nothing more is taken in.
	tells(t, "i64 main() { return get() + get() + get(); }", "", "", 0, 1<<64-3)
	tells(t, "i64 main() { return get() + get() + get(); }", "\x05", "", 1, 3)
	tells(t, "u64 main() { return (u16)get(); }", "", "", 0, 65535)
	tells(t, "void main() { get(); get(); }", "abc", "", 2, 0)
	tells(t, "void main() { }", "abc", "", 0, 0)
}

// TestTheMostCalls: MaxCalls of them may be open, that of main too.
func TestTheMostCalls(t *testing.T) {
	// f(n) is n calls that are open beside main's.
	const f = "i16 f(i16 n) { put(n); if (n > 1) { return f(n - 1) + 1; } return 1; } "
	down := func(from, to int) (out string) {
		for n := from; n >= to; n-- {
			out += string([]byte{byte(n)})
		}
		return out
	}
	for _, n := range []int{1, 2, 58, 59} {
		tells(t, f+fmt.Sprintf("i16 main() { return f(%d); }", n), "", down(n, 1), 0, uint64(n))
	}
	trapsTelling(t, f+"i16 main() { return f(60); }", down(60, 2), api.TrapCalls)
	trapsTelling(t, f+"i16 main() { return f(61); }", down(61, 3), api.TrapCalls)
	// One call more within main leaves room for one less.
	tells(t, f+"i16 g() { return f(58); } i16 main() { return g(); }", "", down(58, 1), 0, 58)
	trapsTelling(t, f+"i16 g() { return f(59); } i16 main() { return g(); }", down(59, 2), api.TrapCalls)
	trapsTelling(t, "i16 n; void main() { n = n + 1; put(n); main(); }", string(reversed(down(60, 1))), api.TrapCalls)
	trapsTelling(t, "i16 n; void f() { n = n + 1; put(n); g(); } void g() { n = n + 1; put(n); f(); } void main() { f(); }", string(reversed(down(59, 1))), api.TrapCalls)
	// Calls that came back are open no more, however they came back.
	tells(t, f+"i16 main() { i16 k; i16 s; for (k = 0; k < 100; k = k + 1) { s = s + g() + h() + i() + f(1); } return s; } i16 g() { return 1; } i16 h() { } i16 i() { while (1) { { return 2; } } }", "", many("\x01", 100), 0, 400)
	tells(t, "i16 f(i16 n) { return n + 1; } i16 main() { return "+many("f(", 70)+"0"+many(")", 70)+"; }", "", "", 0, 70)
	tells(t, f+"i16 main() { return f(59) + f(59) + f(59); }", "", down(59, 1)+down(59, 1)+down(59, 1), 0, 177)
	// put and get are no such calls.
	tells(t, "i16 f(i16 n) { if (n > 1) { return f(n - 1); } put(get()); return get(); } i16 main() { return f(59); }", "xy", "x", 2, 'y')
}

func reversed(s string) []byte {
	out := []byte(s)
	for i := range len(out) / 2 {
		out[i], out[len(out)-1-i] = out[len(out)-1-i], out[i]
	}
	return out
}

// TestTooManyCallsBehindKids: what a call is given is worked out first, with all that this does.
func TestTooManyCallsBehindKids(t *testing.T) {
	const f = "i16 n; i16 f(i16 a) { n = n + 1; if (n < 59) { return f(0); } X } i16 g(i16 a) { put(66); return 1; } i16 main() { return f(0); }"
	for _, c := range []struct {
		s    string
		want api.Told
	}{
		{"put(65); return g(get());", api.Told{How: api.RanTrap, Trap: api.TrapCalls, Output: []byte("A"), Read: 1}}, {"put(65); return g(1 / 0);", api.Told{How: api.RanTrap, Trap: api.TrapZero, Output: []byte("A")}}, {"put(65); return get();", api.Told{How: api.RanHalt, Output: []byte("A"), Read: 1, Result: 'x'}},
		{"return 0 && g(1);", api.Told{How: api.RanHalt}}, {"return 1 && g(1);", api.Told{How: api.RanTrap, Trap: api.TrapCalls}},
	} {
		p := read(t, strings.Replace(f, "X", c.s, 1))
		got, fault := Run(p, []byte("xy"), enough)
		if fault != (api.Fault{}) || got.How != c.want.How || got.Trap != c.want.Trap || got.Read != c.want.Read || got.Result != c.want.Result || !bytes.Equal(got.Output, c.want.Output) {
			t.Errorf("%+v, %v comes, not %+v, of %s", got, fault, c.want, c.s)
		}
	}
	// The limit comes where there is no tick left for the kids, and the trap where there is.
	p := read(t, "void f(i16 a) { f(1); } void main() { f(1); }")
	last := 60 * 3
	runs(t, p, "", last-1, api.Told{How: api.RanFuel, Ticks: last - 1})
	runs(t, p, "", last, api.Told{How: api.RanTrap, Trap: api.TrapCalls, Ticks: last})
}

// TestParametersAndResults: of each pair of types, what is given and what is taken, and what is returned and what is told.
func TestParametersAndResults(t *testing.T) {
	for _, x := range allTypes {
		for _, y := range allTypes {
			for _, n := range edges(x) {
				taken := answering(call("f", written(n, x)))
				taken.Funcs = append(taken.Funcs, api.Func{Name: "f", Result: u64t, Params: []api.Param{{Type: y, Name: "p"}}, Body: list(returning(name("p")))})
				answers(t, taken, wrapped(n, y), n, x, y)
				told := answering(call("f"))
				told.Funcs = append(told.Funcs, api.Func{Name: "f", Result: y, Body: list(returning(written(n, x)))})
				answers(t, told, wrapped(n, y), n, x, y)
				// What is told is of that type: half of it has its sign, or none.
				half := answering(two(api.CShr, call("f"), num(1)))
				half.Funcs = append(half.Funcs, told.Funcs[1])
				want, _ := twoKids(api.CShr, meant{wrapped(n, y), y}, meant{big.NewInt(1), i16t})
				answers(t, half, want.n, n, x, y)
			}
		}
	}
}

func TestCallsByHand(t *testing.T) {
	for _, c := range []struct {
		text string
		want uint64
	}{
		// Parameters are the call's own, and may be set.
		{"i16 f(i16 a, i16 b) { a = a * 10; return a + b; } i64 main() { i16 a = 1; i16 b = 2; return f(b, a) * 100 + a * 10 + b; }", 2112},
		{"i16 a = 7; i16 f(i16 a) { a = a + 1; return a; } i64 main() { return f(3) * 10 + a; }", 47}, {"i16 f(i16 n) { i16 m = n; if (n) { f(n - 1); } return m; } i64 main() { return f(5); }", 5}, {"i16 f(i16 n) { i16 m; m = m + n; return m; } i64 main() { return f(5) + f(6); }", 11},
		// It tells 0 where it comes to its end, whatever was told ahead of that.
		{"i16 g() { return 5; } i16 f() { g(); } i64 main() { return f(); }", 0}, {"i16 g() { return 5; } i16 f() { i16 x = g(); if (x == 6) { return 1; } } i64 main() { g(); return f() + g(); }", 5}, {"i16 f(i16 n) { if (n) { return n; } } i64 main() { return f(4) * 10 + f(0); }", 40},
		{"i16 x; void g() { x = x + 1; return; } void f() { g(); x = x * 10; } i64 main() { f(); f(); return x; }", 110}, {"u8 f() { return 300; } i64 main() { return f(); }", 44}, {"i8 f() { return 200; } i64 main() { return f() + 0; }", 1<<64 - 56}, {"i16 f(u8 a, i8 b, u64 c) { return (a == 44) + (b == -56) * 2 + (c == 18446744073709551615u) * 4; } i64 main() { return f(300, 200, -1); }", 7},
		{"i16 fib(i16 n) { if (n < 2) return n; return fib(n - 1) + fib(n - 2); } i64 main() { return fib(12); }", 144}, {"u16 f(u16 a, u16 b) { while (b) { u16 c = a % b; a = b; b = c; } return a; } i64 main() { return f(1071, 462); }", 21}, {"i16 even(i16 n) { if (n) return odd(n - 1); return 1; } i16 odd(i16 n) { if (n) return even(n - 1); return 0; } i64 main() { return even(10) * 10 + even(7); }", 10},
	} {
		tells(t, c.text, "", "", 0, c.want)
	}
}
