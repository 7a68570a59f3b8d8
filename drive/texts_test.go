package drive

import (
	"fmt"
	"reflect"
	"strings"

	"pairlegal/api"
)

// many is a text that stands there often.
func many(text string, n int) string { return strings.Repeat(text, n) }

// bad is a text with which something is wrong.
type bad struct {
	text string
	want api.Fault
}

func fault(err api.Errno, at int) api.Fault { return api.Fault{Err: err, At: at} }

// marked is a text that is wrong for Read where the mark @ stands.
func marked(err api.Errno, text string) bad {
	at := strings.Index(text, "@")
	return bad{text[:at] + text[at+1:], fault(err, at)}
}

// wrongForRead are texts that are no programs; each place is a byte.
func wrongForRead() []bad {
	const end = " void main() { }"
	eight := "i16 a, i16 b, i16 c, i16 d, i16 e, i16 f, i16 g, i16 h"
	return []bad{
		marked(api.ErrForm, "@x"),
		marked(api.ErrForm, "i16 main() { put(65); return 7 @}"),
		marked(api.ErrForm, "i16 x = 1 +@;"+end),
		marked(api.ErrForm, "void main() { @"),
		marked(api.ErrForm, "// a remark\n\tvoid main() { put(65) @} // and one more"),
		marked(api.ErrForm, "void x@;"+end),
		{"x $", fault(api.ErrForm, 2)}, // A sign that is none is met ahead of all that stands there.
		{"void main() { } \x00", fault(api.ErrForm, 16)},
		{"void main() { } \xff", fault(api.ErrForm, 16)},
		marked(api.ErrName, "  i16 @if;"+end),
		marked(api.ErrName, "void @"+many("a", api.MaxName+1)+"() { }"+end),
		marked(api.ErrFit, "void main() { put(1); @1 = 2; }"),
		marked(api.ErrRange, "i16 a[@0];"+end),
		marked(api.ErrRange, "i16 a[@8001];"+end),
		marked(api.ErrRange, "i16 x = @18446744073709551616;"+end),
		marked(api.ErrMany, "i16 a[1] = {1, @2};"+end),
		marked(api.ErrMany, "void f("+eight+", @i16 i) { }"+end),
		marked(api.ErrMany, "void main() { f(1, 2, 3, 4, 5, 6, 7, 8, @9); }"),
		marked(api.ErrMany, many("i16 f() { } ", api.MaxFuncs)+"@void main() { }"),
		marked(api.ErrMuch, "i16 x = "+many("(", api.MaxDeep)+"@1"),
		{"void main() { " + many("-", api.MaxShape) + "1; }", fault(api.ErrMuch, 0)},
		{"void main() { }" + many(" ", api.MaxSource-14), fault(api.ErrMuch, 0)},
		{many("\xff", api.MaxSource+1), fault(api.ErrMuch, 0)},
	}
}

// wrongForCheck are programs as they are read with which something is wrong; each place is the number of a variable or function.
func wrongForCheck() []bad {
	return []bad{
		{"", fault(api.ErrNone, 0)},
		{" \t\n// nothing", fault(api.ErrNone, 0)},
		{"i16 x; void f() { }", fault(api.ErrNone, 2)},
		{"void main(i16 x) { }", fault(api.ErrNone, 1)},
		{"i16 x; i16 y; u8 x; void main() { }", fault(api.ErrName, 2)},
		{"i16 x; void main() { } void put() { }", fault(api.ErrName, 2)},
		{"i16 main() { x; }", fault(api.ErrName, 0)},
		{"i16 x; void main() { } void f() { { i16 y; } y = 1; }", fault(api.ErrName, 2)},
		{"i16 x; i16 y = x; void main() { }", fault(api.ErrFit, 1)},
		{"void f() { } void main() { break; }", fault(api.ErrFit, 1)},
		{"i16 x = 1; i16 y = 1 / 0; void main() { }", fault(api.ErrZero, 1)},
		{"void f() { } i16 main() { return f(); }", fault(api.ErrType, 1)},
		{"i16 a[2]; void main() { a; }", fault(api.ErrType, 1)},
		{"u8 x; u8 y; void main() { put(); }", fault(api.ErrMany, 2)},
		{"i16 a[8000]; u8 x; void main() { }", fault(api.ErrMuch, 1)},
		// What would be left out, when it is worked out ahead, is looked at, too.
		{"void f() { } void main() { while (0) { x; } }", fault(api.ErrName, 1)},
		{"void main() { if (1) { } else { continue; } }", fault(api.ErrFit, 0)},
		{"void main() { if (0) { put(put(1)); } }", fault(api.ErrType, 0)},
		// So it is where there are too many nodes.
		{"void f() { } void main() { " + many(";", 2*api.MaxBuild) + " x; }", fault(api.ErrName, 1)},
		{"i16 x; void f() { " + many("1 + 1;", api.MaxBuild) + " }", fault(api.ErrNone, 2)},
	}
}

// wrongForBuild are programs that have too many nodes, also when they are worked out ahead.
func wrongForBuild() []bad {
	much := fault(api.ErrMuch, 0)
	return []bad{
		{nodes(api.MaxBuild + 1), much},
		{nodes(api.MaxNodes), much},
		{"i16 x; i16 y; void f() { } void main() { " + many("x = y;", api.MaxBuild/2) + " }", much},
		{"u8 a[600] = {1" + many(", 1", 599) + "}; void main() { }", much},
		{"void main() { if (1) { " + many("put(1);", 170) + " } }", much},
		{"// a remark\nvoid f() { " + many(";", api.MaxBuild) + " } void main() { }", much},
	}
}

func allBad() []bad {
	return append(append(wrongForRead(), wrongForCheck()...), wrongForBuild()...)
}

// nodes is a program of so many.
func nodes(n int) string { return "void main() { " + many(";", n-1) + " }" }

// shrinks are programs that have too many nodes as they are read, but not when they are worked out ahead; each tells A.
func shrinks() []string {
	return []string{
		"void main() { while (0) { " + many(";", api.MaxBuild) + " } put(65); }",
		"void main() { if (1) { put(65); } else { " + many("put(66);", api.MaxBuild) + " } }",
		"void main() { if (2 - 2) { " + many("put(66);", api.MaxBuild) + " } else { put(30 + 35); } }",
		"i16 a[200] = {65" + many(", 1 + 1", 199) + "}; void main() { put(a[0]); }",
		"void main() { put(" + many("-", 90) + "65); " + many(many("!", 90)+"0;", 10) + " }",
		"void main() { put(65); " + many("1 + 2 + 3 + 4 + 5 + 6 + 7;", 50) + " }",
	}
}

// muchTold tells MaxTold bytes, and then comes what stands behind.
func muchTold(behind string) string {
	return "i16 n = 512; u8 c; void main() { while (n) { " + many("put(c);", 128) + " n = n - 1; } " + behind + " }"
}

const (
	tellsA  = "i16 main() { put(65); return 7; }"
	cat     = "i16 main() { i16 c = get(); while (c >= 0) { put(c); c = get(); } return 0; }"
	forever = "void main() { while (1) { } }"
	wide    = "u64 f(u64 n) { if (n < 2u) { return 1u; } return n * f(n - 1u); } void main() { u64 r = f(15u); while (r != 0u) { put(r % 10u + 48u); r = r / 10u; } }"
	places  = "i32 a[3] = {1, -2, 3 << 20}; u8 g = 300; i16 main() { i64 s = 0; i16 k; for (k = 0; k < 3; k = k + 1) { s = s * 7 + a[k]; } put(s); put(s >> 8); put(g); return s; }"
	known   = "void main() { if (1 + 1 == 2) { put(60 + 5); } else { put(66); } while (3 < 2) { put(67); } put(-1 >> 4); }"
)

// good are programs that become words.
func good() []string {
	return []string{
		tellsA, cat, forever, wide, places, known,
		"void main() { }",
		"void main() { put(65); put(1 / (get() + 1)); }",
		"u16 a[4]; void main() { put(65); a[get() + 5] = 1; }",
		"void f() { f(); } void main() { put(65); f(); }",
		"void main() { i16 c; for (;;) { c = get(); if (c < 0) { break; } if (c == 32 || c > 96 && c < 100) { continue; } put(~c); put(!c); put(-c); } }",
		muchTold(""), muchTold("put(65);"),
		nodes(api.MaxBuild),
		"void main() { put(65); }" + many(" ", api.MaxSource-24),
	}
}

// broken are texts in which a piece is missing or stands twice: most of them are wrong, somehow.
func broken() (out []string) {
	for _, text := range []string{tellsA, cat, places, known} {
		for at := range text {
			out = append(out, text[:at], text[at:], text[:at]+text[at+1:], text[:at+1]+text[at:])
		}
		words := strings.Fields(text)
		for at := range words {
			ahead, behind := strings.Join(words[:at], " "), strings.Join(words[at+1:], " ")
			out = append(out, ahead+" "+behind, ahead+" "+words[at]+" "+words[at]+" "+behind)
		}
	}
	return out
}

// sameList holds lists against each other, for which nil and one without entries are the same.
func sameList[T comparable](a, b []T) bool {
	return len(a) == len(b) && (len(a) == 0 || reflect.DeepEqual(a, b))
}

func sameImage(a, b api.Image) bool {
	return sameList(a.Words, b.Words) && sameList(a.Units, b.Units) && sameList(a.Spots, b.Spots)
}

func sameRan(a, b api.Ran) bool {
	return a.How == b.How && a.Trap == b.Trap && sameList(a.Output, b.Output) && a.Read == b.Read && a.Steps == b.Steps &&
		a.State.Regs == b.State.Regs && a.State.Flags == b.State.Flags && a.State.At == b.State.At && sameList(a.State.Mem, b.State.Mem)
}

// brief is what came of a run, without its state, and without the most of what was told, if that is much.
func brief(r api.Ran) string {
	return fmt.Sprintf("how %d, trap %d, read %d, steps %d, %d bytes %.100q", r.How, r.Trap, r.Read, r.Steps, len(r.Output), r.Output)
}
