package check

import (
	"strings"
	"testing"

	"pairlegal/api"
)

// I2

// places has each kind of block in main, with an AHEAD, an IN and a BEHIND: statements that stand there.
var places = []string{
	"AHEAD { IN } BEHIND",
	"AHEAD if (1) { IN } BEHIND",
	"AHEAD if (1) ; else { IN } BEHIND",
	"AHEAD if (1) { IN } else { BEHIND }",
	"AHEAD if (1) { IN } else if (2) { BEHIND }",
	"AHEAD while (1) { IN } BEHIND",
	"AHEAD for (;;) { IN } BEHIND",
	"AHEAD for (; 1; ) { IN } BEHIND",
	"{ AHEAD { IN } BEHIND }",
	"while (1) { AHEAD if (1) { IN } BEHIND }",
	"if (1) { AHEAD } else { while (1) { IN } } BEHIND",
	"{ AHEAD } { IN } { BEHIND }",
	"{ { { AHEAD } } } { { { IN } } } { { BEHIND } }",
	"for (;;) { AHEAD { { IN } } BEHIND }",
}

// laid puts statements into a place.
func laid(place, ahead, in, behind string) string {
	return strings.NewReplacer("AHEAD", ahead, "IN", in, "BEHIND", behind).Replace(place)
}

// speaks has statements that speak of the name x.
var speaks = []string{"x;", "x = 1;", "put(x);", "-x;", "if (x) ;", "while (x) ;", "for (x = 1;;) ;", "for (; x; ) ;", "for (;; x = 2) ;", "{ x; }", "i16 own = x;", "x = x + 1;", "put(x + 1);", "(u8)x;", "1 && x;"}

func TestWhereANameIsSeen(t *testing.T) {
	for _, place := range places {
		for _, use := range speaks {
			right(t, "void main() { "+laid(place, "", "i16 x; "+use, "")+" }")
			right(t, "void main() { "+laid(place, "", "i16 x = 5; ; { "+use+" }", "")+" }")
			right(t, "void main() { "+laid(place, "", "i16 x; while (1) { "+use+" }", "")+" }")
			says(t, "void main() { "+laid(place, use, "i16 x;", "")+" }", api.ErrName, 0)
			says(t, "void main() { "+laid(place, "", use+" i16 x;", "")+" }", api.ErrName, 0)
			says(t, "void main() { "+laid(place, "", "i16 x;", use)+" }", api.ErrName, 0)
			says(t, "void main() { "+laid(place, "", "{ i16 x; } "+use, "")+" }", api.ErrName, 0)
			says(t, "void main() { "+laid(place, "", "if (1) i16 x; "+use, "")+" }", api.ErrName, 0)
			says(t, "void main() { "+laid(place, "", "while (1) i16 x; "+use, "")+" }", api.ErrName, 0)
			says(t, "void main() { "+laid(place, "", "if (1) ; else i16 x; "+use, "")+" }", api.ErrName, 0)
			says(t, "void main() { "+laid(place, "", "for (;;) i16 x; "+use, "")+" }", api.ErrName, 0)
			// What one function declares another one does not see, nor what it takes.
			says(t, "i16 y; void f(i16 x) { } void main() { "+laid(place, use, "", "")+" }", api.ErrName, 2)
			says(t, "i16 y; void main() { "+laid(place, "", "", use)+" } void f(i16 x) { }", api.ErrName, 1)
			says(t, "i16 y; void f() { i16 x; } void main() { "+laid(place, "", use, "")+" }", api.ErrName, 2)
		}
	}
}

// TestNamesInAFor: what its Body declares is seen neither in its X nor in its Step, and in no loop's X.
func TestNamesInAFor(t *testing.T) {
	for _, text := range []string{
		"for (;; x = 1) { i16 x; }", "for (;; x) { i16 x; }", "for (; x; ) { i16 x; }", "for (x = 1;;) { i16 x; }", "for (x;;) { i16 x; }",
		"for (;; put(x)) i16 x;", "while (x) { i16 x; }", "if (x) { i16 x; }", "if (1) { i16 x; } else { x; }", "if (1) { x; } else { i16 x; }",
	} {
		says(t, "void main() { "+text+" }", api.ErrName, 0)
		// With one of all it is that one.
		right(t, "i16 x; void main() { "+text+" }")
	}
	right(t, "void main() { i16 x; for (x = 1; x; x = x + 1) { i16 y = x; y; } x; }")
}

func TestParametersAreSeenInAll(t *testing.T) {
	for _, place := range places {
		for _, use := range speaks {
			text := laid(place, "AHEAD", "IN", "BEHIND")
			for _, k := range []string{"AHEAD", "IN", "BEHIND"} {
				stats := strings.NewReplacer(k, use, "AHEAD", "", "IN", "", "BEHIND", "").Replace(text)
				right(t, "void main() { } void f(u8 x) { "+stats+" }")
				right(t, "void main() { } void f(u8 a, i64 b, i16 x) { "+stats+" }")
				says(t, "void main() { } void f(u8 a, i64 b, i16 X) { "+stats+" }", api.ErrName, 1)
			}
		}
	}
}

func TestVariablesOfAllAreSeenInAll(t *testing.T) {
	for _, place := range places {
		for _, use := range speaks {
			for _, l := range [][3]string{{use, "", ""}, {"", use, ""}, {"", "", use}} {
				stats := laid(place, l[0], l[1], l[2])
				right(t, "i16 x; void main() { "+stats+" }")
				right(t, "void main() { "+stats+" } i64 y; u32 x = 4;")
				// A function's name is none of a variable.
				says(t, "void x() { } void main() { "+stats+" }", api.ErrName, 1)
			}
		}
	}
}

// TestHiddenNames: in a block that declares x, and behind that SDecl alone, x is no longer that of all, which is an array here, so that its uses tell which one it is.
func TestHiddenNames(t *testing.T) {
	asNumber := []string{"x;", "x = 1;", "put(x);", "if (x) ;", "while (x) ;", "for (; x; x = 1) ;", "i16 own = x;", "{ x; }"}
	asArray := []string{"x[0];", "x[0] = 1;", "put(x[1]);", "if (x[0]) ;", "while (x[1]) ;", "for (; x[0]; x[1] = 1) ;", "i16 own = x[2];", "{ x[0]; }"}
	for _, place := range places {
		for i, number := range asNumber {
			array := asArray[i]
			for _, c := range []struct {
				ahead, in, behind string
				ok                bool
			}{
				{array, "i16 x;", "", true}, {number, "i16 x;", "", false},
				{"", "i16 x;", array, true}, {"", "i16 x;", number, false},
				{"", "i16 x; " + number, "", true}, {"", "i16 x; " + array, "", false},
				{"", array + " i16 x;", "", true}, {"", number + " i16 x;", "", false},
				{"", "i16 x; { " + number + " }", "", true}, {"", "i16 x; { " + array + " }", "", false},
				{"", "{ i16 x; } " + array, "", true}, {"", "{ i16 x; } " + number, "", false},
				{"", "i16 x = x[1]; " + number, "", true}, {"", "i16 x = x; " + number, "", false},
			} {
				err, at := api.OK, 0
				if !c.ok {
					err, at = api.ErrType, 2
				}
				says(t, "u8 x[3]; void f() { } void main() { "+laid(place, c.ahead, c.in, c.behind)+" }", err, at)
			}
			stats := laid(place, number, "", "")
			right(t, "u8 x[3]; void f(i16 x) { "+stats+" } void main() { x[0]; }")
			says(t, "u8 x[3]; void f(i16 x) { "+laid(place, "", "", array)+" } void main() { x[0]; }", api.ErrType, 1)
		}
	}
	// Names of a function hide no function, and no array's name is one of a function.
	right(t, "i16 f() { } void main() { i16 f = 1; i16 put = f(); i16 get = 1; i16 main; put(f); f = get() + put + main + get; main(); }")
	right(t, "i16 f(i16 f) { f = f(f); } void main() { }")
}

func TestNamesDeclaredTwice(t *testing.T) {
	for _, c := range []struct {
		text string
		err  api.Errno
	}{
		{"i16 x; i16 x;", api.ErrName}, {"i16 x; u8 x = 1;", api.ErrName}, {"i16 x; i16 y; i16 z; i16 x;", api.ErrName},
		{"{ i16 x; } { i16 x; }", api.ErrName}, {"i16 x; { i16 x; }", api.ErrName}, {"{ i16 x; } i16 x;", api.ErrName}, {"{ { { i16 x; } } } { { i16 x; } }", api.ErrName},
		{"if (1) i16 x; else i16 x;", api.ErrName}, {"if (1) i16 x; i16 x;", api.ErrName}, {"if (1) i16 x; if (1) ; else i16 x;", api.ErrName},
		{"while (1) { i16 x; } i16 x;", api.ErrName}, {"i16 x; while (1) { i16 x; }", api.ErrName}, {"for (;;) { i16 x; } for (;;) { i16 x; }", api.ErrName}, {"while (1) i16 x; if (1) i16 x;", api.ErrName},
		{"i16 x; i16 X; i16 x_; i16 _x; i16 x2; { i16 y; } { i16 z; }", api.OK}, {"if (1) i16 x; else i16 y;", api.OK}, {"i16 g; u8 a; i16 f; i16 main; i16 put; i16 get;", api.OK},
	} {
		at := 0
		if c.err != api.OK {
			at = 4
		}
		says(t, "i16 g; u8 a[2]; void f() { i16 x; } i16 F(u8 x) { i16 y; } void main() { "+c.text+" }", c.err, at)
	}
	for _, place := range places {
		for _, l := range [][3]string{{"i16 x;", "u8 x;", ""}, {"i16 x;", "", "u64 x;"}, {"", "i16 x;", "i16 x;"}, {"", "i16 x; i16 y; u8 x;", ""}, {"", "i16 x; { i16 x; }", ""}, {"", "{ i16 x; } i16 x;", ""}} {
			says(t, "i16 g; void main() { "+laid(place, l[0], l[1], l[2])+" }", api.ErrName, 1)
		}
		right(t, "i16 g; void main() { "+laid(place, "i16 x;", "i16 y;", "i16 z;")+" }")
		for _, l := range [][3]string{{"i16 p;", "", ""}, {"", "i16 p;", ""}, {"", "", "i16 p = 1;"}, {"", "{ i64 p; }", ""}} {
			says(t, "i16 g; void main() { } void f(i16 q, u8 p) { "+laid(place, l[0], l[1], l[2])+" }", api.ErrName, 2)
			right(t, "i16 g; void main() { } void f(i16 q, u8 P) { "+laid(place, l[0], l[1], l[2])+" }")
		}
	}
}

// TestAnSDeclsX: it does not see the name, and its faults come ahead of that of the name.
func TestAnSDeclsX(t *testing.T) {
	says(t, "void main() { i16 x = x; }", api.ErrName, 0)
	says(t, "void main() { i16 x = 1 + x; }", api.ErrName, 0)
	says(t, "void main() { { i16 x = 1; } { i16 y = x; } }", api.ErrName, 0)
	right(t, "i16 x; void main() { i16 x = x; x = x; }")
	right(t, "void main() { i16 x = 1; i16 y = x; { i16 z = x + y; } }")
	for _, c := range []struct {
		x   string
		err api.Errno
	}{{"1", api.ErrName}, {"x", api.ErrName}, {"put(1)", api.ErrType}, {"get(1)", api.ErrMany}, {"x + put()", api.ErrMany}, {"a", api.ErrType}, {"f()", api.ErrType}, {"x[1]", api.ErrType}} {
		says(t, "u8 a[2]; void f() { } void main() { i16 x; i16 x = "+c.x+"; }", c.err, 2)
		says(t, "u8 a[2]; void f() { } void main() { } void g(i16 x) { i16 x = "+c.x+"; }", c.err, 3)
	}
	// Without Has there is none, whatever stands there.
	answers(t, api.Program{Funcs: []api.Func{mainOf(api.Stat{Kind: api.SDecl, Type: i16t, Name: "x", X: name("x")})}}, api.OK, 0)
}

func TestPutAndGet(t *testing.T) {
	// No fault tells what `put` takes, since any number is converted.
	if l := newNames().functions["put"].Params; len(l) != 1 || l[0].Type != i16t {
		t.Errorf("put takes %v", l)
	}
	for _, is := range typeNames {
		right(t, is+" v; void main() { put(v); v = get(); v = get() + v; }")
	}
	for text, err := range map[string]api.Errno{
		"put(1);": api.OK, "put(get());": api.OK, "get();": api.OK, "put(99999999999);": api.OK, "i16 x = get();": api.OK,
		"put();": api.ErrMany, "put(1, 2);": api.ErrMany, "get(1);": api.ErrMany, "get(get());": api.ErrMany, "put(put(1));": api.ErrType, "i16 x = put(1);": api.ErrType, "-put(1);": api.ErrType,
		"put;": api.ErrName, "get;": api.ErrName, "put = 1;": api.ErrName, "get[1] = 1;": api.ErrName, "put[0];": api.ErrName, "main;": api.ErrName, "main = 1;": api.ErrName,
	} {
		says(t, "void main() { "+text+" }", err, 0)
	}
}
