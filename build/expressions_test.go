package build

import (
	"fmt"
	"math/big"
	"strings"
	"testing"

	"pairlegal/api"
	"pairlegal/emu"
	"pairlegal/eval"
)

// L2: expressions

func TestExpressionsByHand(t *testing.T) {
	for _, c := range []struct{ x, output string }{
		{"7", "\x07"}, {"250 + 10", "\x04"}, {"x", "\x03"}, {"-7 / 2", "\xfd"}, {"-7 % 2", "\xff"}, {"7 / -2", "\xfd"}, {"7 % -2", "\x01"}, {"2 - 7", "\xfb"}, {"6 * 7", "*"}, {"1 << 6", "@"}, {"-9 >> 1", "\xfb"}, {"65535u >> 8", "\xff"}, {"1u << 17", "\x00"}, {"1 << -1", "\x00"},
		{"6 & 3", "\x02"}, {"6 ^ 3", "\x05"}, {"6 | 3", "\x07"}, {"~5", "\xfa"}, {"-x", "\xfd"}, {"!x", "\x00"}, {"!0", "\x01"}, {"!65536", "\x00"}, {"(u8)-1 == 255", "\x01"}, {"(i8)128 < 0", "\x01"}, {"(i8)255 + (u8)255", "\xfe"},
		{"1 < 2", "\x01"}, {"2 <= 2", "\x01"}, {"3 > 3", "\x00"}, {"3 >= 4", "\x00"}, {"3 == 3", "\x01"}, {"3 != 3", "\x00"}, {"-1 < 0u", "\x00"}, {"-1 == 65535u", "\x01"}, {"-1 < 0", "\x01"}, {"(i32)-1 < 65535u", "\x01"}, {"-32768 < 32767", "\x01"}, {"(i64)-1 < 0", "\x01"}, {"65536 > 65535", "\x01"}, {"4294967296 > 4294967295u", "\x01"},
		{"1 && 2", "\x01"}, {"1 && 0", "\x00"}, {"0 && say(9)", "\x00"}, {"1 && say(9)", "\x09\x01"}, {"0 || 2", "\x01"}, {"0 || 0", "\x00"}, {"1 || say(9)", "\x01"}, {"0 || say(9)", "\x09\x01"}, {"65536 && 4294967296", "\x01"}, {"0 || 281474976710656", "\x01"}, {"!(1 && 0) || say(1)", "\x01"}, {"(say(1) || say(2)) && (say(0) || say(3))", "\x01\x00\x03\x01"}, {"!!x", "\x01"}, {"!(x > 2 && x < 9)", "\x00"},
		{"a[0]", "\x00"}, {"(a[2] + 1) * 5", "\x05"}, {"say(1) + say(2)", "\x01\x02\x03"}, {"say(say(1) + 1)", "\x01\x02\x02"}, {"x + (x + (x + (x + x)))", "\x0f"}, {"x - (x - (x - 1))", "\x02"}, {"(u64)x * (x + 2) - (u64)15", "\x00"}, {"(x + 1) / (x - 1)", "\x02"}, {"x - (x * x)", "\xfa"}, {"(x < 4) + (x > 4)", "\x01"},
	} {
		halts(t, helpers+"void main() { put("+c.x+"); }", "", c.output, 0)
	}
}

// sum is ahead of main where many numbers are worked out: mix takes each in so that all its bits count, and tell tells all bytes of what they have become.
const sum = "i64 h; void mix(i64 n) { h = h + h + (h < 0) ^ n; } void tell() { u64 n = h; i16 k; for (k = 0; k < 8; k = k + 1) { put(n); n = n >> 8; } } "

// meansTheSame is does with the most fuel alone, for programs that take long; they must come to their end.
func meansTheSame(t *testing.T, text string) {
	t.Helper()
	p := read(t, text)
	told, _ := eval.Run(p, nil, api.MaxTicks)
	image := built(t, p)
	r, err := emu.Run(image.Words, api.State{}, nil, api.MaxFuel)
	if err != api.OK || !sameEnd(told, r) || r.How == api.RanFuel {
		t.Fatalf("%s\ncomes, not\n%s\nof\n%s", brief(r.How, r.Trap, r.Read, r.Steps, r.Output), brief(told.How, told.Trap, told.Read, told.Ticks, told.Output), text)
	}
}

// groups are operators that are tried in one program each: those that take long by themselves.
var groups = [][]string{{"*"}, {"/"}, {"%"}, {"<<", ">>"}, {"+", "-", "&", "^", "|"}, {"<", "<=", ">", ">="}, {"==", "!=", "&&", "||"}}

// without leaves 0 out, if operators divide.
func without(l []*big.Int, operators []string) (out []*big.Int) {
	for _, n := range l {
		if n.Sign() != 0 || operators[0] != "/" && operators[0] != "%" {
			out = append(out, n)
		}
	}
	return out
}

// mixed are statements that take in what each operator makes of two pieces.
func mixed(a string, operators []string, b string) string {
	var out strings.Builder
	for _, o := range operators {
		fmt.Fprintf(&out, "mix(%s %s %s); ", a, o, b)
	}
	return out.String()
}

// TestEachPairOfTypes: each operator of two numbers with the edges of each pair of types, wherever these lie.
func TestEachPairOfTypes(t *testing.T) {
	for _, x := range allTypes {
		for _, y := range allTypes {
			for _, operators := range groups {
				l, m := edges(x), without(edges(y), operators)
				ahead := fmt.Sprintf("%s a[%d] = {%s}; %s b[%d] = {%s}; %s p; %s q; ", typeName(x), len(l), texts(l, x), typeName(y), len(m), texts(m, y), typeName(x), typeName(y)) + sum
				loops := fmt.Sprintf("void main() { i16 i; i16 j; for (i = 0; i < %d; i = i + 1) { for (j = 0; j < %d; j = j + 1) { ", len(l), len(m))
				const behind = "} tell(); } }"
				meansTheSame(t, ahead+loops+mixed("a[i]", operators, "b[j]")+behind)
				meansTheSame(t, ahead+loops+"p = a[i]; q = b[j]; "+mixed("p", operators, "q")+behind)
				meansTheSame(t, ahead+loops+typeName(x)+" v = a[i]; "+typeName(y)+" w = b[j]; "+mixed("v", operators, "w")+behind)
			}
		}
	}
}

// TestEachPairWithANumber: the second one is written there.
func TestEachPairWithANumber(t *testing.T) {
	literals := []string{"1", "255", "32767", "32768", "65535", "65536", "2147483647", "2147483648", "9223372036854775807", "1u", "65535u", "65536u", "4294967295u", "4294967296u", "18446744073709551615u"}
	for _, x := range allTypes {
		for _, operators := range groups {
			l := edges(x)
			var both strings.Builder
			for _, n := range literals {
				both.WriteString(mixed("p", operators, n))
			}
			meansTheSame(t, fmt.Sprintf("%s a[%d] = {%s}; ", typeName(x), len(l), texts(l, x))+sum+fmt.Sprintf("void main() { i16 i; for (i = 0; i < %d; i = i + 1) { %s p = a[i]; %s tell(); } }", len(l), typeName(x), both.String()))
			// And the first one.
			both.Reset()
			for _, n := range literals {
				both.WriteString(mixed(n, operators, "p"))
			}
			l = without(l, operators)
			meansTheSame(t, fmt.Sprintf("%s a[%d] = {%s}; ", typeName(x), len(l), texts(l, x))+sum+fmt.Sprintf("void main() { i16 i; for (i = 0; i < %d; i = i + 1) { %s p = a[i]; %s tell(); } }", len(l), typeName(x), both.String()))
		}
	}
}

// TestEachType: operators of one number, casts to each type, and each way in which a number becomes one of another type.
func TestEachType(t *testing.T) {
	for _, x := range allTypes {
		for _, y := range allTypes {
			l := edges(x)
			from, to := typeName(x), typeName(y)
			text := fmt.Sprintf("%s a[%d] = {%s}; %s g; %s c[3]; ", from, len(l), texts(l, x), to, to) + sum +
				fmt.Sprintf("%s give(%s p) { return p; } %s back(%s p) { return p; } %s both(u8 o, %s p, i64 q) { return p + o + q; } ", to, to, to, from, to, to) +
				fmt.Sprintf("void main() { i16 i; for (i = 0; i < %d; i = i + 1) { %s p = a[i]; %s d = p; %s s; mix(d); mix(s); s = p; mix(s); s = a[i]; mix(s); g = p; mix(g); c[1] = p; mix(c[0]); mix(c[1]); mix(c[2]); mix(give(p)); mix(back(p)); mix(both(p, p, p)); tell(); ", len(l), from, to, to) +
				fmt.Sprintf("mix((%s)p); mix((%s)a[i]); mix((%s)-p); mix(-(%s)p); mix(~(%s)a[i]); mix(!(%s)p); mix(!p); mix(~p); mix(-a[i]); tell(); } }", to, to, to, to, to, to)
			meansTheSame(t, text)
		}
	}
}

// TestWhatIsNot0: each edge of each type where it is asked whether it is 0.
func TestWhatIsNot0(t *testing.T) {
	for _, x := range allTypes {
		l := edges(x)
		ahead := fmt.Sprintf("%s a[%d] = {%s}; %s g; i16 say(i16 n) { put(n); return n; } ", typeName(x), len(l), texts(l, x), typeName(x))
		for _, p := range []string{"p", "g", "a[i]", "(p | 0)", "(0 ^ (g + 0))"} {
			body := strings.ReplaceAll("if (P) put(1); if (P) put(2); else put(3); while (P) { put(4); break; } for (; P; put(5)) { break; } for (; !P; say(6)) break; put(P && 1); put(1 && P); put(P || 0); put(0 || P); put(!P); put(!!P); put(P && say(7)); put(P || say(8)); put(P != 0 && !(P == 0)); ", "P", p)
			meansTheSame(t, ahead+fmt.Sprintf("void main() { i16 i; for (i = 0; i < %d; i = i + 1) { %s p = a[i]; g = p; %s } }", len(l), typeName(x), body))
		}
	}
}

// TestShifts: by each number of places up to more than there are bits, and by numbers that go round.
func TestShifts(t *testing.T) {
	for _, x := range allTypes {
		for _, n := range edges(x) {
			if n.Sign() == 0 || n.BitLen() < 3 {
				continue
			}
			ahead := fmt.Sprintf("%s p = %s; ", typeName(x), text(n, x)) + sum
			meansTheSame(t, ahead+"void main() { u16 k; for (k = 0; k < 70; k = k + 1) { mix(p << k); mix(p >> k); } tell(); }")
			meansTheSame(t, ahead+"void main() { mix(p << 255); mix(p >> 255); mix(p << 256); mix(p >> 256); mix(p << 65535u); mix(p >> -1); mix(p << 65536); mix(p >> 65537); mix(p << 4294967296); mix(p >> 4294967298u); mix(p << -65535); mix(p >> (i8)-1); mix(p << (u8)-255); tell(); }")
		}
	}
}

// TestOrder: kids are gone through from the first one on, where they tell, or take bytes in, or change what the others read.
func TestOrder(t *testing.T) {
	for _, o := range []string{"*", "/", "%", "<<", ">>", "+", "-", "&", "^", "|", "<", "<=", ">", ">=", "==", "!="} {
		halts(t, helpers+"void main() { say(5) "+o+" say(3); }", "", "\x05\x03", 0)
		halts(t, helpers+"void main() { (say(5) "+o+" say(3)) * (say(7) "+o+" say(2)); }", "", "\x05\x03\x07\x02", 0)
		for _, is := range []string{"i16", "u16", "i32", "u32", "i64", "u64"} {
			comesToEnd(t, read(t, "void main() { "+is+" x = ("+is+")get() "+o+" get(); put(x); put(x >> 8); put(get()); }"), "\x09\x02\x05")
			// What was read stays so, whatever is changed behind it.
			ahead := is + " g = 100; " + is + " change() { g = g + 7; put(g); return g; } "
			for _, x := range []string{"g O change()", "change() O g", "g O g + change()", "(g O change()) + g", "g O change() O g O change()", "g O (g + change())", "(g + change()) O g", "-g O -change()", "(i64)g O change()", "g O (u64)change()"} {
				meansTheSame(t, ahead+"void main() { put("+strings.ReplaceAll(x, "O", o)+"); put(g); }")
			}
		}
	}
	halts(t, helpers+"i16 f(i16 p, i64 q, u8 r) { put(9); return p; } void main() { f(say(1), say(2), say(3)); f(f(say(4), 0, 0), say(5), f(say(6), 0, say(7))); }", "", "\x01\x02\x03\x09\x04\x09\x05\x06\x07\x09\x09", 0)
	halts(t, "i16 f(i16 p, i16 q) { put(p); put(q); } void main() { f(get(), get()); }", "ab", "ab", 2)
	halts(t, "i16 x; i16 f(i16 p, i16 q, i16 r) { put(p); put(q); put(r); } i16 up() { x = x + 1; return x; } void main() { f(x, up(), x); f(up(), x, up()); }", "", "\x00\x01\x01\x02\x02\x03", 0)
	halts(t, helpers+"void main() { a[say(1)] = a[say(1)] + say(4); put(a[1]); }", "", "\x01\x01\x04\x04", 0)
	halts(t, "u8 a[2]; i16 x; i16 up() { x = x + 1; return x; } void main() { a[x] = up(); put(a[0]); put(a[1]); }", "", "\x01\x00", 0)
}

// TestDeepExpressions: nested as deep as they may be, to the left and to the right.
func TestDeepExpressions(t *testing.T) {
	for kind := api.CMul; kind <= api.CLor; kind++ {
		for _, leaf := range []api.Expr{name("x"), name("p"), num(3), call("get"), at("a", num(1)), cast(u64t, name("x")), call("f", name("p"))} {
			left, right := leaf, leaf
			for range api.MaxShape - 5 {
				left, right = two(kind, left, leaf), two(kind, leaf, right)
			}
			for _, x := range []api.Expr{left, right} {
				p := read(t, "u64 x = 3; i32 a[2] = {0, 5}; u16 f(u64 q) { return q; } void main() { i16 p = 7; }")
				p.Funcs[1].Body = append(p.Funcs[1].Body, put(x), put(name("p")))
				comesToEnd(t, p, strings.Repeat("abc", 60))
			}
		}
	}
	for kind := api.CCast; kind <= api.CLog; kind++ {
		for _, is := range allTypes {
			x := name("p")
			for range api.MaxShape - 4 {
				x = one(kind, x)
				x.Type = is
			}
			p := read(t, "void main() { i32 p = -70000; }")
			p.Funcs[0].Body = append(p.Funcs[0].Body, put(x))
			comesToEnd(t, p, "")
		}
	}
}
