package source

import (
	"strings"
	"testing"

	"pairlegal/api"
)

// failsToRead has a text with a `@` where the fault is; that sign is taken out.
func failsToRead(t *testing.T, err api.Errno, marked string) {
	t.Helper()
	ahead, behind, found := strings.Cut(marked, "@")
	if !found || strings.Contains(behind, "@") {
		t.Fatalf("%q: it must be marked once", short(marked))
	}
	if got, f := Read(ahead + behind); !same(got, api.Program{}) || f.Err != err || f.At != len(ahead) {
		t.Errorf("Read(%q): %v comes, not %d at %d", short(ahead+behind), f, err, len(ahead))
	}
}

// failsIn is for statements of a function.
func failsIn(t *testing.T, err api.Errno, marked string) {
	t.Helper()
	failsToRead(t, err, "void f() { "+marked+" }")
}

// failsAs is for an expression, wherever one may stand.
func failsAs(t *testing.T, err api.Errno, marked string) {
	t.Helper()
	failsToRead(t, err, "i16 x = "+marked+";")
	failsToRead(t, err, "i16 x[2] = {"+marked+"};")
	for _, around := range []string{"# ;", "x = #;", "a[#] = 1;", "i16 y = #;", "return #;", "if (#) ;", "while (#) ;", "for (#; ; ) ;", "for (; #; ) ;", "for (; ; #) ;", "f(#);", "f(1, #);", "(#);", "a[#];", "-(#);"} {
		failsIn(t, err, strings.Replace(around, "#", marked, 1))
	}
}

// H5

func TestWhatTokensSays(t *testing.T) {
	failsToRead(t, api.ErrForm, "i16 x; @#")
	failsToRead(t, api.ErrForm, "this is no program @#")
	failsToRead(t, api.ErrRange, "if @99999999999999999999")
	failsToRead(t, api.ErrRange, "i16 x = @9223372036854775808;")
	failsToRead(t, api.ErrMuch, "@if "+strings.Repeat(" ", api.MaxSource))
	failsToRead(t, api.ErrForm, "@if "+strings.Repeat(" ", api.MaxSource-3))
	reads(t, "i16 x;"+strings.Repeat(" ", api.MaxSource-6), globals(api.Global{Type: i16t, Name: "x"}))
	failsToRead(t, api.ErrMuch, "@i16 x;"+strings.Repeat(" ", api.MaxSource-5))
}

func TestWhereATypeIsAskedFor(t *testing.T) {
	for _, text := range []string{"x", "x;", "main() { }", "if", "return;", "1", "(", ";", "{", "}", "i17 x;", "I16 x;", "int x;", "else x;", "= 1;", strings.Repeat("x", 40)} {
		failsToRead(t, api.ErrForm, "@"+text)
		failsToRead(t, api.ErrForm, "i16 x; @"+text)
		failsToRead(t, api.ErrForm, "void f() { } \n// a\n @"+text)
	}
	for _, text := range []string{"x", "x y", "void", "void y", "if", "1", ",", "(", "}", ";", "i17 a", "= 1"} {
		failsToRead(t, api.ErrForm, "void f(@"+text+") { }")
		failsToRead(t, api.ErrForm, "void f(i16 a, @"+text+") { }")
	}
	failsToRead(t, api.ErrForm, "void f(i16 a,@) { }")
	failsToRead(t, api.ErrForm, "void f(@, i16 a) { }")
}

func TestWhereANameIsAskedFor(t *testing.T) {
	long := strings.Repeat("x", api.MaxName+1)
	for _, word := range append([]string{long, long + long}, reserved...) {
		for _, text := range []string{"i16 @#;", "i16 @#", "void @#() { }", "u8 @#[0];", "void f(u8 @#) { }", "void f(i16 a, u8 @#, ) { }", "void f(i16 a, u8 @#"} {
			failsToRead(t, api.ErrName, strings.Replace(text, "#", word, 1))
		}
		for _, text := range []string{"u8 @#;", "u8 @# = ;", "x = @#;", "x = @# = 1;", "for (@# x; ; ) ;", "for (x; @#; ) ;", "for (x; ; @#) ;", "if (@#) ;", "while (@#) ;", "return @#;"} {
			failsIn(t, api.ErrName, strings.Replace(text, "#", word, 1))
		}
		for _, text := range []string{"1 + @#", "-@#", "(u8)@#", "f(@#())", "f(1, @#)", "a[@#]", "1 + @#[", "(1 * @#)"} {
			failsAs(t, api.ErrName, strings.Replace(text, "#", word, 1))
		}
	}
	// These begin neither a statement nor a declaration, nor a cast behind a bracket.
	for _, word := range []string{"else", "void", long} {
		for _, text := range []string{"@#;", "@# x;", "; @#", "if (1) { } ; @# ;", "while (1) @# ;", "{ @# }", "@#() ;"} {
			failsIn(t, api.ErrName, strings.Replace(text, "#", word, 1))
		}
		failsAs(t, api.ErrName, "(@"+word+")")
		failsAs(t, api.ErrName, "(@"+word+")x")
	}
	for _, other := range []string{"1", "(", ")", ";", "=", "[", "{", "}", "+", ","} {
		failsToRead(t, api.ErrForm, "i16 @"+other)
		failsToRead(t, api.ErrForm, "void @"+other+" x")
		failsToRead(t, api.ErrForm, "void f(u8 @"+other+" x")
		failsIn(t, api.ErrForm, "i8 @"+other)
	}
}

func TestVariablesThatAreWrong(t *testing.T) {
	for _, behind := range []string{"1", "x", ")", "]", "{", "}", ",", "+", "==", "i16", "else"} {
		failsToRead(t, api.ErrForm, "i16 x @"+behind)
		failsToRead(t, api.ErrForm, "void x @"+behind)
	}
	for _, behind := range []string{";", "=", "[", "= 1;", "[3];", "[0];", "[x", "= if"} {
		failsToRead(t, api.ErrForm, "void x @"+behind)
	}
	for _, n := range []string{"x", "]", "-1", "(3)", "+", ";", "i8", ""} {
		failsToRead(t, api.ErrForm, "u8 a[@"+n)
	}
	for _, text := range []string{
		"u8 a[3@;", "u8 a[3 @+ 1];", "u8 a[3 @u];", "u8 a[3]@[3];", "u8 a[3] @1;", "u8 a[3] @{1};", "u8 a[3]@(", "u8 a[3] = @1;", "u8 a[3] = @;", "u8 a[3] = {@;", "u8 a[3] = {@, 1};", "u8 a[3] = {1 @2};", "u8 a[3] = {1, @};", "u8 a[3] = {1@;};",
		"u8 a[3] = {1@)", "u8 a[3] = {@{1}};", "u8 a[3] = {1} @i16 x;", "u8 a[3] = {1} @= 1;", "u8 a = @{1};", "u8 a = @;", "u8 a = 1@, b;", "u8 a = 1 @= 2;", "u8 a = 1 @2;", "u8 a = 1 @[2];", "u8 a@, b;", "i16 x;@;",
	} {
		failsToRead(t, api.ErrForm, text)
	}
}

func TestSizesOfArrays(t *testing.T) {
	for _, n := range []string{"0", "00", "0u", "8001", "8001u", "008001", "32768", "65536", "65537u", "2147483648", "4294967297", "9223372036854775807", "9223372036854775808u", "18446744073709551615u"} {
		failsToRead(t, api.ErrRange, "u8 a[@"+n+"];")
		// A number is read ahead of the sign that closes it.
		failsToRead(t, api.ErrRange, "u8 a[ @"+n+";")
		failsToRead(t, api.ErrRange, "u8 a[ @"+n)
	}
	for _, n := range []string{"1", "2", "8000", "08000", "8000u"} {
		failsToRead(t, api.ErrForm, "u8 a["+n+"@;")
		failsToRead(t, api.ErrForm, "u8 a["+n+"]@")
	}
}

func TestFunctionsThatAreWrong(t *testing.T) {
	for _, text := range []string{
		"void f(i16@) { }", "void f(i16 a @b) { }", "void f(i16 a@; i16 b) { }", "void f(i16 a@[3]) { }", "void f(i16 a @= 3) { }", "void f(i16 a@{ }", "void f()@;", "void f() @return;", "void f() @= 1;",
		"void f() { } @;", "void f() { } @}", "void f() { @) }", "void f() { @] }", "void f() { @, }", "void f() { i16 g@() { } }", "void f(@{ }", "void f@)", "void f()@) { }",
	} {
		failsToRead(t, api.ErrForm, text)
	}
}

func TestStatementsThatAreWrong(t *testing.T) {
	for _, text := range []string{
		"return @)", "return 1 @2;", "return @}", "return x @= 1;", "break @1;", "break @}", "continue @x;", "continue@)",
		"i16 x@, y;", "i16 x@[3];", "i16 x = @;", "i16 x = 1@, 2;", "i16 x = 1 @= 2;", "i16 x = @{1};", "i16 x @}", "i16 @= 1;", "i16 @;", "i16 x@(",
		"x @}", "x@, y;", "x @y;", "x = @;", "x = 1 @}", "x = y @= 1;", "x = 1@)", "a[0] = @;", "a[0] = 1 @= 2;", "@= 1;", "x @{", "1 @2;",
		"if @x", "if @;", "if (@)", "if (x@;", "if (x @= 1) ;", "if (x) @}", "if (x) @)", "if (x) ; else @}", "if (x@, y) ;", "if (x) x @else ;",
		"while @x", "while (@)", "while (x@;)", "while (x) @}", "while (x @= 1) ;", "while (@;) ;", "while (x) @) ;",
		"for @;", "for (@)", "for (x@)", "for (x = 1@)", "for (;@)", "for (;x@)", "for (;x @= 1;) ;", "for (;;x@;) ;", "for (;;@;) ;", "for (;;x = 1@, y = 1) ;", "for (x@, y;;) ;", "for (;;) @}", "for (x = @;;) ;", "for (@{ } ; ; ) ;", "for (;;@}",
		"{ @) }", "{ @] ", "{ ; @, }", "@] x;", "@+ x;", "@* x;",
	} {
		failsIn(t, api.ErrForm, text)
	}
}

func TestExpressionsThatAreWrong(t *testing.T) {
	for _, text := range []string{
		"1 + @)", "1 + @* 2", "1 @1", "x @x", "1 @x", "1@(2)", "1@[2]", "x@{", "(@{", "(@)", "(1@]", "(1@;", "(1 @2)", "(1@, 2)", "(@+ 1)", "1 * @/ 2", "1 @! 2", "1 @~ 2", "-@+1", "~@* 1", "! @= 1", "1 & @& 2", "1 < @= 2", "(x @= 1)",
		"a[@]", "a[1@)", "a[1 @2]", "a[1@, 2]", "a[1]@[2]", "a[1]@(2)", "a[x @= 1]", "f@{", "f(@,", "f(1@]", "f(1 @2)", "f(1, @)", "f(1, @, 2)", "f(1@; 2)", "f(1)@(2)", "f(1)@[2]", "f(x @= 1)",
		"(u8 @+ 1)", "(u8 @x)", "(u8@(x))", "(u8)@* x", "(u8)@)", "(u8@]", "(u8@, 1)", "(u8@[3])", "1 + (2 * (3 - @))",
	} {
		failsAs(t, api.ErrForm, text)
	}
	for _, text := range []string{"1 + @", "(1@", "-@", "(u8@", "(u8)@", "a[@", "a[1@", "f(1@", "f(1, @", "1 == @", "(@"} {
		failsToRead(t, api.ErrForm, "i16 x = "+text)
		failsToRead(t, api.ErrForm, "i16 x = "+text+";")
		failsToRead(t, api.ErrForm, "void f() { return "+text+"}")
	}
}

// All that is begun has an end; at the text's end it is missing, behind blanks and remarks.
func TestTheTextsEnd(t *testing.T) {
	for _, text := range []string{
		"i16", "void", "i16 x", "void f", "i16 x =", "i16 x = 1", "u8 a[", "u8 a[3", "u8 a[3]", "u8 a[3] =", "u8 a[3] = {", "u8 a[3] = {1", "u8 a[3] = {1,", "u8 a[1] = {1", "u8 a[1] = {1,", "u8 a[3] = {1}",
		"void f(", "void f(i16", "void f(i16 a", "void f(i16 a,", "void f()", "void f() {", "void f() { ;", "void f() { {", "void f() { { }",
		"void f() { return", "void f() { return 1", "void f() { break", "void f() { continue", "void f() { i16", "void f() { i16 x", "void f() { i16 x =", "void f() { i16 x = 1", "void f() { x", "void f() { x =", "void f() { x = 1", "void f() { a[1] =",
		"void f() { if", "void f() { if (", "void f() { if (x", "void f() { if (x)", "void f() { if (x) ;", "void f() { if (x) ; else", "void f() { if (x) { } else { }", "void f() { while", "void f() { while (", "void f() { while (x", "void f() { while (x)",
		"void f() { for", "void f() { for (", "void f() { for (x", "void f() { for (x = 1", "void f() { for (;", "void f() { for (; x", "void f() { for (; x;", "void f() { for (; x; x", "void f() { for (; x; x =", "void f() { for (;;)",
		"i16 x = -", "i16 x = (", "i16 x = (1", "i16 x = (u8", "i16 x = (u8)", "i16 x = 1 +", "i16 x = a[", "i16 x = a[1", "i16 x = f(", "i16 x = f(1", "i16 x = f(1,", "i16 x = f(1, 2, 3, 4, 5, 6, 7, 8,", "void f(u8 a, u8 a, u8 a, u8 a, u8 a, u8 a, u8 a, u8 a,",
	} {
		for _, behind := range []string{"", " ", "\n\n", " // x", "\t// x\n "} {
			failsToRead(t, api.ErrForm, text+behind+"@")
			failsToRead(t, api.ErrForm, "i16 y; "+text+behind+"@")
		}
	}
}

func TestWhatIsNotSet(t *testing.T) {
	for _, first := range []string{"1", "2u", "f()", "f(1)", "-x", "!x", "~a[1]", "(u8)x", "x + 1", "x == y", "(x + 1)", "(f())", "((1))", "a[0] + 1", "(u8)(x)"} {
		failsIn(t, api.ErrFit, "@"+first+" = 1;")
		failsIn(t, api.ErrFit, "x = 1; { @"+first+" = 1; }")
		failsIn(t, api.ErrFit, "for (@"+first+" = 1; ; ) ;")
		failsIn(t, api.ErrFit, "for (; ; @"+first+" = 1) ;")
		// It is met at `=`: what stands behind comes too late, and what stands ahead is met first.
		failsToRead(t, api.ErrFit, "void f() { @"+first+" =")
		failsIn(t, api.ErrFit, "@"+first+" = if;")
		failsIn(t, api.ErrFit, "@"+first+" = = 1;")
		failsIn(t, api.ErrForm, first+" @{ = 1;")
		failsIn(t, api.ErrForm, "("+first+" @= 1);")
	}
	failsIn(t, api.ErrName, "1 + @if = 1;")
	failsIn(t, api.ErrForm, "1 + @= 1;")
	failsIn(t, api.ErrMany, "f(1, 2, 3, 4, 5, 6, 7, 8, @9) = 1;")
}

func TestTooManyArguments(t *testing.T) {
	const eight = "1, 2, 3, 4, 5, 6, 7, 8"
	for _, ninth := range []string{"9", "x", "-x", "~1", "!x", "(x)", "(u8)x", "f()", "9 +", "(", "9, 10", "(u8", "a[", "9 = "} {
		failsAs(t, api.ErrMany, "f("+eight+", @"+ninth+")")
		failsToRead(t, api.ErrMany, "i16 x = f("+eight+",@"+ninth)
		failsAs(t, api.ErrMany, "f(1, g("+eight+", @"+ninth+"))")
	}
	// What begins none is not one too many.
	for _, other := range []string{")", ",", "]", ";", "* x", "= 1", "{"} {
		failsAs(t, api.ErrForm, "f("+eight+", @"+other+")")
	}
	failsAs(t, api.ErrName, "f("+eight+", @if)")
	failsAs(t, api.ErrName, "f("+eight+", @u8)")
	failsAs(t, api.ErrForm, "f("+eight+" @9)")
}

func TestTooManyParameters(t *testing.T) {
	eight := "i16 a" + strings.Repeat(", i16 a", api.MaxParams-1)
	for _, ninth := range []string{"b", "", "if", "b, u8 c", "b;", "1"} {
		failsToRead(t, api.ErrMany, "void f("+eight+", @u8 "+ninth)
		failsToRead(t, api.ErrMany, "i16 f("+eight+", @i64 "+ninth+") { }")
	}
	for _, other := range []string{")", ",", "x", "void x", "1", "if"} {
		failsToRead(t, api.ErrForm, "void f("+eight+", @"+other+") { }")
	}
	failsToRead(t, api.ErrForm, "void f("+eight+" @u8 x) { }")
}

func TestTooManyNumbers(t *testing.T) {
	for _, more := range []string{"4", "x", "-x", "~1", "!x", "(x)", "(u8)x", "f()", "4 +", "("} {
		failsToRead(t, api.ErrMany, "u8 a[3] = {1, 2, 3, @"+more+"};")
		failsToRead(t, api.ErrMany, "u8 a[1] = {1, @"+more)
	}
	for _, other := range []string{"}", ",", ";", "* 1"} {
		failsToRead(t, api.ErrForm, "u8 a[3] = {1, 2, 3, @"+other)
	}
	failsToRead(t, api.ErrName, "u8 a[3] = {1, 2, 3, @u8")
	full := strings.Repeat("1,", api.MaxGlobals-1)
	if p, f := Read("u8 a[8000] = {" + full + "1};"); f != (api.Fault{}) || len(p.Globals) != 1 || len(p.Globals[0].Init) != api.MaxGlobals {
		t.Errorf("Read of a full array: %v comes", f)
	}
	failsToRead(t, api.ErrMany, "u8 a[8000] = {"+full+"1,@1};")
	failsToRead(t, api.ErrMany, "u8 a[7999] = {"+full+"@1};")
}

func TestTooManyFunctions(t *testing.T) {
	full := strings.Repeat("void f() { } i16 x; ", api.MaxFuncs)
	if p, f := Read(full); f != (api.Fault{}) || len(p.Funcs) != api.MaxFuncs || len(p.Globals) != api.MaxFuncs {
		t.Errorf("Read of %d functions: %v comes", api.MaxFuncs, f)
	}
	for _, last := range []string{"@void f() { }", "@i16 f() { }", "@void f(", "@u8 f(x", "i16 y; @void g()"} {
		failsToRead(t, api.ErrMany, full+last)
	}
	// It is met at the bracket.
	failsToRead(t, api.ErrName, full+"void @if() { }")
	failsToRead(t, api.ErrForm, full+"void @() { }")
	failsToRead(t, api.ErrForm, full+"void f@;")
	failsToRead(t, api.ErrForm, full+"void f@")
	if _, f := Read(full + "i16 y; u8 z[3];"); f != (api.Fault{}) {
		t.Errorf("Read of %d functions, and variables behind: %v comes", api.MaxFuncs, f)
	}
}

// nests has what may be nested: a text ahead, what opens again and again, what is innermost, what shuts as often, and a text behind. `<<<` stands where a level is opened, `>>>` where it is left.
var nests = [][5]string{
	{"void f() { ", "<<<{", "<<<;>>>", "}>>>", " }"},
	{"void f() { ", "<<<{", "<<<<<<x>>>;>>>", "}>>>", " }"},
	{"void f() { ", "<<<{", "", "}>>>", " }"},
	{"void f() { ", "<<<{<<<;>>>", "<<<i16 x;>>>", "}>>>", " }"},
	{"void f() { <<<<<<", "(<<<", "1", ">>>)", ">>>;>>> }"},
	{"i16 x = <<<", "(<<<", "1", ">>>)", ">>>;"},
	{"i16 x[1] = {<<<", "(<<<", "1", ">>>)", ">>>};"},
	{"i16 x = <<<", "-<<<", "1", ">>>", ">>>;"},
	{"i16 x = <<<", "~ <<<", "x", ">>>", ">>>;"},
	{"i16 x = <<<", "!<<<", "f()", ">>>", ">>>;"},
	{"i16 x = <<<", "(u8)<<<", "1", ">>>", ">>>;"},
	{"i16 x = <<<", "-<<<(i8) <<<", "1", ">>>>>>", ">>>;"},
	{"i16 x = <<<", "a[<<<", "1", ">>>]", ">>>;"},
	{"i16 x = <<<", "f(<<<", "1", ">>>)", ">>>;"},
	{"i16 x = <<<", "f(<<<1>>>, <<<", "1", ">>>)", ">>>;"},
	{"i16 x = <<<", "f(<<<", "1", ">>>, <<<1>>>)", ">>>;"},
	{"i16 x = <<<", "1 + (<<<", "1", ">>>)", ">>>;"},
	{"i16 x = <<<", "1 + 2 * (<<<", "1", ">>>) - 3", ">>>;"},
	{"i16 x = <<<", "-<<<(<<<", "1", ">>>)>>>", ">>>;"},
	{"i16 x = <<<", "(u8)<<<(<<<", "1", ">>>)>>>", ">>>;"},
	{"i16 x = <<<", "1 - -<<<1>>> * (<<<", "1", ">>>)", ">>>;"},
	{"void f() { <<<<<<x>>> = <<<", "(<<<", "1", ">>>)", ">>>;>>> }"},
	{"void f() { <<<<<<a[<<<", "(<<<", "1", ">>>)", ">>>]>>> = <<<1>>>;>>> }"},
	{"void f() { <<<return <<<", "(<<<", "1", ">>>)", ">>>;>>> }"},
	{"void f() { <<<i16 x = <<<", "(<<<", "1", ">>>)", ">>>;>>> }"},
	{"void f() { <<<if (<<<", "(<<<", "1", ">>>)", ">>>) <<<;>>>>>> }"},
	{"void f() { <<<while (<<<", "(<<<", "1", ">>>)", ">>>) <<<;>>>>>> }"},
	{"void f() { <<<for (<<<", "(<<<", "1", ">>>)", ">>>;;) <<<;>>>>>> }"},
	{"void f() { <<<for (;<<<", "(<<<", "1", ">>>)", ">>>;) <<<;>>>>>> }"},
	{"void f() { <<<for (;;<<<", "(<<<", "1", ">>>)", ">>>) <<<;>>>>>> }"},
	{"void f() { <<<for (;;<<<x>>> = <<<", "(<<<", "1", ">>>)", ">>>) <<<;>>>>>> }"},
	{"void f() { ", "<<<if (<<<1>>>) ", "<<<;>>>", ">>>", " }"},
	{"void f() { ", "<<<if (<<<1>>>) <<<;>>> else ", "<<<;>>>", ">>>", " }"},
	{"void f() { ", "<<<if (<<<1>>>) <<<{", "<<<;>>>", "}>>>>>>", " }"},
	{"void f() { ", "<<<if (<<<1>>>) <<<{", "", "}>>> else <<<{ }>>>>>>", " }"},
	{"void f() { ", "<<<if (<<<1>>>) <<<{ }>>> else <<<{", "<<<;>>>", "}>>>>>>", " }"},
	{"void f() { ", "<<<while (<<<1>>>) ", "<<<;>>>", ">>>", " }"},
	{"void f() { ", "<<<for (;;) ", "<<<;>>>", ">>>", " }"},
	{"void f() { ", "<<<for (<<<x>>> = <<<1>>>; <<<x>>>; <<<x>>>) <<<{", "<<<;>>>", "}>>>>>>", " }"},
	{"i16 y; void g() { } void f() { <<<;>>> <<<{ <<<;>>> }>>> <<<{ ", "<<<{", "<<<return;>>>", "}>>>", "}>>> }"},
}

// levels answers a text without its marks, and where the first level too many is opened; -1, if none is.
func levels(marked string) (string, int) {
	var text strings.Builder
	open, at := 0, -1
	for marked != "" {
		switch {
		case strings.HasPrefix(marked, "<<<"):
			open++
			if open > api.MaxDeep && at < 0 {
				at = text.Len()
			}
			marked = marked[3:]
		case strings.HasPrefix(marked, ">>>"):
			open--
			marked = marked[3:]
		default:
			text.WriteByte(marked[0])
			marked = marked[1:]
		}
	}
	return text.String(), at
}

// turnsTried are all counts at which one of nests becomes too deep, and those next to them, and some others.
func turnsTried() []int {
	var out []int
	for _, about := range []int{2, 100, api.MaxDeep / 3, api.MaxDeep / 2, api.MaxDeep} {
		for d := -5; d <= 5; d++ {
			out = append(out, max(0, about+d))
		}
	}
	return out
}

func TestDeep(t *testing.T) {
	for _, n := range nests {
		bad := false
		for _, turns := range turnsTried() {
			text, at := levels(n[0] + strings.Repeat(n[1], turns) + n[2] + strings.Repeat(n[3], turns) + n[4])
			_, f := Read(text)
			// What is not too deep to be read may be too deep for a program; brackets are no part of it.
			fits := f == (api.Fault{}) || turns > 30 && f == (api.Fault{Err: api.ErrMuch}) && n[1] != "(<<<"
			if at >= 0 {
				bad = true
				fits = f == (api.Fault{Err: api.ErrMuch, At: at})
			}
			if !fits {
				t.Errorf("%d times %q: %v comes, not %d", turns, n[1], f, at)
				break
			}
		}
		if !bad {
			t.Errorf("%q was never too deep", n[1])
		}
	}
}

// What is met first is told: the level ahead of what stands there, but only where one is opened.
func TestDeepAheadOfOthers(t *testing.T) {
	brackets := strings.Repeat("(", api.MaxDeep-1)
	for _, next := range []string{"1", "(", "-1", ")", "if", ""} {
		failsToRead(t, api.ErrMuch, "i16 x = "+brackets+"(@"+next)
	}
	failsToRead(t, api.ErrForm, "i16 x = "+brackets+"@)")
	failsToRead(t, api.ErrName, "i16 x = "+brackets+"@if")
	failsToRead(t, api.ErrForm, "i16 x = "+brackets+"@")
	failsToRead(t, api.ErrForm, "i16 x = "+brackets+"1 @1")
	failsToRead(t, api.ErrForm, "i16 x = "+brackets+"f() @1")
	for _, head := range []string{"-", "~", "!", "(u8)", "a[", "f("} {
		failsToRead(t, api.ErrMuch, "i16 x = "+brackets+head+"@1")
	}
	blocks := strings.Repeat("{", api.MaxDeep)
	failsToRead(t, api.ErrMuch, "void f() { "+blocks+"@;")
	failsToRead(t, api.ErrMuch, "void f() { "+blocks+"@{")
	failsToRead(t, api.ErrForm, "void f() { "+blocks+"@")
	failsToRead(t, api.ErrForm, "void f() { "+blocks+"}@")
}

// TestTooMuchInTheEnd has programs that are read, but too large.
func TestTooMuchInTheEnd(t *testing.T) {
	nested := func(n int) string { return strings.Repeat("{", n) + strings.Repeat("}", n) }
	reads := func(text string, ok bool) {
		t.Helper()
		p, f := Read(text)
		if ok != (f == (api.Fault{})) || !ok && (f != (api.Fault{Err: api.ErrMuch}) || !same(p, api.Program{})) {
			t.Errorf("Read(%q): %v comes", short(text), f)
		}
	}
	reads("void f() { "+nested(99)+" }", true)
	reads("void f() { "+nested(100)+" }", false)
	reads("i16 x = "+strings.Repeat("-", 98)+"1;", true)
	reads("i16 x = "+strings.Repeat("-", 99)+"1;", false)
	reads("i16 x = 1"+strings.Repeat("+1", 98)+";", true)
	reads("i16 x = 1"+strings.Repeat("+1", 99)+";", false)
	reads("i16 x = 1"+strings.Repeat("+1", 30000)+";", false)
	reads("void f() { "+strings.Repeat(";", 19999)+" }", true)
	reads("void f() { "+strings.Repeat(";", 20000)+" }", false)
	reads("void f() { "+strings.Repeat(";", 60000)+" }", false)
	failsToRead(t, api.ErrForm, "void f() { "+strings.Repeat(";", 60000)+" }@;")
	failsToRead(t, api.ErrName, "void f() { "+nested(100)+" @else }")
	failsToRead(t, api.ErrForm, "i16 x = "+strings.Repeat("-", 99)+"1@")
}
