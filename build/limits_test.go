package build

import (
	"fmt"
	"strings"
	"testing"

	"pairlegal/api"
	"pairlegal/eval"
)

// L2: where runs end

// TestPlaces: an array's first place, its last one, the one behind it, and those below 0 or above 65535, which go round.
func TestPlaces(t *testing.T) {
	for _, is := range allTypes {
		n := typeName(is)
		for _, size := range []int{1, 2, 255, 256, 300, api.MaxGlobals * 16 / max(16, is.Bits) / 2} {
			around := fmt.Sprintf("%s ahead = 1; %s a[%d] = {65}; %s behind = 2; ", n, n, size, n)
			for _, c := range []struct {
				place string
				is    int // which place it is; -1, if none
			}{
				{"0", 0}, {"1", 1}, {fmt.Sprint(size - 1), size - 1}, {fmt.Sprint(size), size}, {fmt.Sprint(size + 1), size + 1}, {"-1", -1}, {fmt.Sprint(-size), -1}, {"32767", -1}, {"32768", -1}, {"65535u", -1}, {"65535", -1},
				{"65536", 0}, {"65537u", 1}, {fmt.Sprint(65535 + size), size - 1}, {fmt.Sprint(65536 + size), size}, {"131072", 0}, {"4294967296", 0}, {"-65536", 0}, {"-65535", 1}, {fmt.Sprintf("-65536 + %d", size-1), size - 1}, {"(i8)-1", -1}, {"(i8)255", -1}, {"(u8)-1", 255}, {"(i64)-1", -1}, {"(i64)1 << 48", 0}, {"(u64)1 << 63 | 1", 1}, {"18446744073709551615u", -1},
				{"get()", -1}, {"a[0] - 65", 0}, {"a[0] - 65 + " + fmt.Sprint(size-1), size - 1},
			} {
				tries := around + "void main() { put(3); put(a[" + c.place + "] + 1); put(4); }"
				sets := around + "i16 say(i16 x) { put(x); return x; } void main() { put(3); a[" + c.place + "] = say(7); put(a[" + c.place + "]); put(ahead); put(behind); }"
				first := map[bool]string{true: "B", false: "\x01"}[c.is == 0]
				if c.is >= 0 && c.is < size {
					sure(t, tries, api.RanHalt, 0, "\x03"+first+"\x04")
					// Where the place is asked of the array itself it is another one the second time.
					if !strings.Contains(c.place, "a[") {
						sure(t, sets, api.RanHalt, 0, "\x03\x07\x07\x01\x02")
					}
				} else {
					sure(t, tries, api.RanTrap, api.TrapPlace, "\x03")
					sure(t, sets, api.RanTrap, api.TrapPlace, "\x03")
				}
			}
		}
	}
}

// sure: how a text ends, with what, and what it tells, with just the fuel that is promised.
func sure(t *testing.T, text string, how, trap int, output string) {
	t.Helper()
	p := read(t, text)
	told, _ := eval.Run(p, nil, api.MaxTicks)
	if told.How != how || told.Trap != trap || string(told.Output) != output {
		t.Fatalf("%s is meant, not %d, %d, %q, by\n%s", brief(told.How, told.Trap, told.Read, told.Ticks, told.Output), how, trap, output, text)
	}
	ran(t, p, built(t, p), told, "", min(promised(told), api.MaxFuel))
}

// TestEachPlace: all numbers of an array lie beside each other, each of its own.
func TestEachPlace(t *testing.T) {
	for _, is := range allTypes {
		n := typeName(is)
		meansTheSame(t, "u8 w = 9; "+n+" a[20]; "+n+" b[20]; u8 z = 8; "+sum+"void main() { i16 k; for (k = 0; k < 20; k = k + 1) { a[k] = k * 777 - 7000; b[19 - k] = a[k] * 5; } for (k = 19; k >= 0; k = k - 1) { mix(a[k]); mix(b[k]); } tell(); put(w); put(z); }")
	}
}

// TestDividedByNought: of each pair of types, wherever the nought comes from.
func TestDividedByNought(t *testing.T) {
	for _, x := range allTypes {
		for _, y := range allTypes {
			for _, o := range []string{"/", "%"} {
				text := typeName(x) + " x = -3; " + typeName(y) + " y; void main() { " + typeName(y) + " z = y; put(65); "
				for _, b := range []string{"y", "z", "(" + typeName(y) + ")0", "(y + z)", "(y && 1)", "(z >> 1)"} {
					sure(t, text+"put(x "+o+" "+b+"); put(66); }", api.RanTrap, api.TrapZero, "A")
				}
				sure(t, text+"put(0 * (x "+o+" (y + 1))); put(66); }", api.RanHalt, 0, "A\x00B")
			}
		}
	}
	// What is not come to does not divide, and what is not asked for does.
	sure(t, "void main() { 0 && 1 / 0; 1 || 1 / 0; if (0) 1 / 0; put(65); }", api.RanHalt, 0, "A")
	sure(t, "void main() { put(65); 1 / 0; }", api.RanTrap, api.TrapZero, "A")
	sure(t, "i16 f(i16 p) { } void main() { put(65); f(1 % 0); }", api.RanTrap, api.TrapZero, "A")
	sure(t, "i16 a[1]; void main() { put(65); a[1 / 0] = 1 / 0; }", api.RanTrap, api.TrapZero, "A")
	sure(t, "i16 a[1]; void main() { put(65); a[1] = 1 / 0; }", api.RanTrap, api.TrapPlace, "A")
	sure(t, "i16 a[1]; void main() { put(65); 1 / a[1]; }", api.RanTrap, api.TrapPlace, "A")
	sure(t, "i16 a[1]; void main() { put(65); a[1] + 1 / 0; }", api.RanTrap, api.TrapPlace, "A")
}

// TestMuchIsTold: MaxTold bytes, and one more.
func TestMuchIsTold(t *testing.T) {
	// 512 times 128 bytes.
	all := "i16 n = 512; u8 c; void main() { while (n) { " + many("put(c);", 128) + " n = n - 1; }"
	for _, c := range []struct {
		behind string
		how    int
		told   int
	}{
		{"", api.RanHalt, api.MaxTold}, {"put(65);", api.RanMuch, api.MaxTold}, {"put(65); put(66);", api.RanMuch, api.MaxTold}, {"put(get());", api.RanMuch, api.MaxTold}, {"1 / 0;", api.RanTrap, api.MaxTold}, {"put(1 / 0);", api.RanTrap, api.MaxTold}, {"for (;;) put(65);", api.RanMuch, api.MaxTold},
	} {
		r := comesToEnd(t, read(t, all+c.behind+" }"), "xyz")
		if r.How != c.how || len(r.Output) != c.told || r.Read != strings.Count(c.behind, "get") {
			t.Errorf("%s comes of %s", brief(r.How, r.Trap, r.Read, r.Steps, r.Output), c.behind)
		}
	}
	less := strings.Replace(all, "n = 512", "n = 511", 1) + many("put(66);", 5)
	if r := comesToEnd(t, read(t, less+" }"), ""); r.How != api.RanHalt || len(r.Output) != api.MaxTold-128+5 {
		t.Errorf("%s comes", brief(r.How, r.Trap, r.Read, r.Steps, r.Output))
	}
}

// TestEachByte: all bytes are told and taken in as they are; behind them comes -1, and nothing is taken.
func TestEachByte(t *testing.T) {
	var all strings.Builder
	for c := range 256 {
		all.WriteByte(byte(c))
	}
	const cat = "i16 main() { i16 c = get(); while (c >= 0) { put(c); c = get(); } put(c); put(c == -1); put(get() == 65535u); put(get() >> 8); return 0; }"
	for _, input := range []string{"", "\x00", "\xff", "abc", all.String(), strings.Repeat(all.String(), 20)} {
		halts(t, cat, input, input+"\xff\x01\x01\xff", len(input))
	}
	halts(t, "void main() { put(get()); put(get()); }", "a", "a\xff", 1)
	halts(t, "void main() { put(get()); }", "abc", "a", 1)
	halts(t, "void main() { get(); get(); get(); }", "ab", "", 2)
	halts(t, "void main() { put(get() + 256); put(-1); put(65536 + 66); put((u64)1 << 40 | 67); put((i8)300); }", "A", "A\xffBC,", 1)
	// As many as may come in.
	long := strings.Repeat("0123456789abcdef", api.MaxInput/16)
	r := comesToEnd(t, read(t, "i16 n = 512; void main() { while (n) { "+many("get();", 128)+" n = n - 1; } put(get() == -1); }"), long)
	if r.Read != api.MaxInput || string(r.Output) != "\x01" {
		t.Errorf("%s comes", brief(r.How, r.Trap, r.Read, r.Steps, r.Output))
	}
}

// chainOf is a text of so many functions of which each calls the next one, and main calls the first one.
func chainOf(n int) string {
	out := fmt.Sprintf("void f%d() { put(65); } ", n)
	for i := n - 1; i >= 1; i-- {
		out += fmt.Sprintf("void f%d() { f%d(); } ", i, i+1)
	}
	return out + "void main() { f1(); put(66); }"
}

// TestCallsWithinOneAnother: up to MaxCalls, that of main too, and one more.
func TestCallsWithinOneAnother(t *testing.T) {
	sure(t, chainOf(api.MaxCalls-2), api.RanHalt, 0, "AB")
	sure(t, chainOf(api.MaxCalls-1), api.RanHalt, 0, "AB")
	sure(t, chainOf(api.MaxCalls), api.RanTrap, api.TrapCalls, "")
	sure(t, chainOf(api.MaxCalls+1), api.RanTrap, api.TrapCalls, "")
	sure(t, "void f() { f(); } void main() { f(); }", api.RanTrap, api.TrapCalls, "")
	sure(t, "void main() { put(1); main(); }", api.RanTrap, api.TrapCalls, many("\x01", api.MaxCalls))
	for _, body := range []string{"f(n - 1);", "i64 x = n * 3; f(x / 3 - 1);", "return f(n - 1) + 1;", "return n * f(n - 1);", "return f(f(0) + n - 6);", "while (1) { u32 x = n << 1; return f((x >> 1) - 1u); }", "f(0); f(0); f(n - 1);"} {
		for n := api.MaxCalls - 3; n <= api.MaxCalls+1; n++ {
			text := "i32 f(i16 n) { if (n == 0) return 5; put(n); " + body + " return 7; } void main() { put(f(" + fmt.Sprint(n) + ")); }"
			r := comesToEnd(t, read(t, text), "")
			if want := n > api.MaxCalls-2; want != (r.How == api.RanTrap && r.Trap == api.TrapCalls) {
				t.Errorf("%s comes of %s", brief(r.How, r.Trap, r.Read, r.Steps, r.Output), text)
			}
		}
	}
	// The kids are worked out ahead of the call that is too many.
	r := comesToEnd(t, read(t, "i16 f(i16 n) { put(n); f(n + 1); } void main() { f(1); }"), "")
	if len(r.Output) != api.MaxCalls-1 || r.Trap != api.TrapCalls {
		t.Errorf("%s comes", brief(r.How, r.Trap, r.Read, r.Steps, r.Output))
	}
	traps(t, "i16 say(i16 n) { put(n); return n; } void f(i16 n) { if (n == 59) f(1 / 0); f(n + 1); } void main() { f(1); }", "", "", 0, api.TrapZero)
}

// TestCallsOneBehindTheOther: of these there may be as many as one likes, whatever is done between.
func TestCallsOneBehindTheOther(t *testing.T) {
	for _, between := range []string{"", "k * 3;", "(u64)k / 7u;", "k << 5;", "get();", "if (f(k)) { i64 y = 4; }", "(i32)k % 100 + f(k) * (i64)2;", "f(f(f(k)));"} {
		for _, way := range []string{"return n;", "if (n & 1) return n; else return 1;", "while (1) { i64 x; break; }", "for (;;) { u8 y; return 5; }", ""} {
			comesToEnd(t, read(t, "i16 f(u16 n) { "+way+" } void main() { i16 k; for (k = 0; k < 200; k = k + 1) { f(k); "+between+" } put(k); }"), "")
		}
	}
}

// TestParameters: as many as there may be, of all types, in each place.
func TestParameters(t *testing.T) {
	for shift := range allTypes {
		var params, given, mixes []string
		for i := range api.MaxParams {
			is := allTypes[(i*3+shift)%len(allTypes)]
			params = append(params, fmt.Sprintf("%s p%d", typeName(is), i))
			given = append(given, fmt.Sprintf("n * %d - 300", i*i*i+1))
			mixes = append(mixes, fmt.Sprintf("mix(p%d);", i))
		}
		text := sum + "i64 f(" + strings.Join(params, ", ") + ") { i32 x = p3; " + strings.Join(mixes, " ") + " p2 = p1; p7 = x + 5; { u64 y = p0; x = y; } " + strings.Join(mixes, " ") + " return p4 + x; } void main() { i16 n; for (n = 0; n < 20; n = n + 1) { u64 own = n; mix(f(" + strings.Join(given, ", ") + ")); mix(own); tell(); } }"
		meansTheSame(t, text)
	}
}

// TestFrames: as many words as a function may declare, in each call of as many as may be open.
func TestFrames(t *testing.T) {
	text := "u16 sum; void f(u64 n, u64 m) { " + declared(api.MaxFrame/4-2) + "if (n == 0u) return; v0 = n; v47 = n * 5u; v20 = m + n; f(n - 1u, v20); sum = sum * 3u + v0 + v20 + v47; put(sum); put(v1 + v46); put(n); } void main() { f(58u, 3u); put(sum >> 8); }"
	comesToEnd(t, read(t, text), "")
}
