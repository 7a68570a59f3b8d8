package asm

import (
	"regexp"
	"slices"
	"strconv"
	"strings"
	"testing"

	"pairlegal/api"
)

const (
	lowest  = -1 << 63
	highest = 1<<63 - 1
)

// kinds is the document's list, kind by kind: its word, and d, s and i for the fields that it has.
var kinds = []struct {
	op        int
	word, has string
}{
	{api.OpHalt, "halt", ""}, {api.OpMov, "mov", "ds"}, {api.OpLdi, "ldi", "di"}, {api.OpLd, "ld", "dsi"}, {api.OpSt, "st", "dsi"},
	{api.OpAdd, "add", "ds"}, {api.OpAdc, "adc", "ds"}, {api.OpSub, "sub", "ds"}, {api.OpSbc, "sbc", "ds"},
	{api.OpAnd, "and", "ds"}, {api.OpOr, "or", "ds"}, {api.OpXor, "xor", "ds"}, {api.OpCmp, "cmp", "ds"}, {api.OpCpc, "cpc", "ds"},
	{api.OpShl, "shl", "d"}, {api.OpRol, "rol", "d"}, {api.OpShr, "shr", "d"}, {api.OpSar, "sar", "d"}, {api.OpRor, "ror", "d"},
	{api.OpJmp, "jmp", "i"}, {api.OpJz, "jz", "i"}, {api.OpJnz, "jnz", "i"}, {api.OpJc, "jc", "i"}, {api.OpJnc, "jnc", "i"},
	{api.OpJlt, "jlt", "i"}, {api.OpJge, "jge", "i"}, {api.OpCall, "call", "i"}, {api.OpRet, "ret", ""},
	{api.OpPush, "push", "s"}, {api.OpPop, "pop", "d"}, {api.OpOut, "out", "s"}, {api.OpIn, "in", "d"}, {api.OpTrap, "trap", "i"},
}

var noKinds = []int{lowest, -33, -1, 33, 34, 64, 1024, 1 << 32, highest}

var noRegisters = []int{lowest, -1, 8, 9, 10, 1<<32 + 1, highest}

var noWords = []int{lowest, -1, 65536, 65537, 1<<32 + 5, highest}

// names are at the edges of what a name may be; noNames just beyond.
var names = []string{
	"a", "z", "_", "a0", "z9", "_1", "__", "a_b", "abc", ".a", "._", ".0", ".9z", "r1", "halt", "mov",
	strings.Repeat("a", 32), "." + strings.Repeat("9", 31), strings.Repeat("_", 31) + "0",
}

var noNames = []string{
	"", ".", "..", "..a", "a.", "a.b", ".a.", "0", "9", "1a", "0_", "A", "aA", "Z", "a b", " a", "a ", "a\t", "\ta", "a-b", "-", "a:", ":", "a;", "a,b",
	"`", "{", "a{", "a`", "/", "a/", "a@", "a\n", "\n", "a\x00", "\x00", "a\r", "\x80", "a\xff", "ä", "aé", "a\u0131", "１",
	strings.Repeat("a", 33), "." + strings.Repeat("a", 32), strings.Repeat("a", 100000),
}

func label(name string) api.Line { return api.Line{Label: name} }

func line(op, d, s, imm int) api.Line {
	return api.Line{Ins: api.Instr{Op: op, D: d, S: s, Imm: imm}}
}

func refers(op, d, s int, ref string) api.Line {
	return api.Line{Ins: api.Instr{Op: op, D: d, S: s}, Ref: ref}
}

// clean leaves of a line the fields that its kind has.
func clean(l api.Line, has string) api.Line {
	if !strings.Contains(has, "d") {
		l.Ins.D = 0
	}
	if !strings.Contains(has, "s") {
		l.Ins.S = 0
	}
	if !strings.Contains(has, "i") {
		l.Ins.Imm = 0
	}
	return l
}

func isWrong(t *testing.T, l api.Line, want api.Errno) {
	t.Helper()
	if err := Wrong(l); err != want {
		t.Errorf("Wrong(%+v): %d comes, not %d", l, err, want)
	}
}

func shows(t *testing.T, l []api.Line, want string) {
	t.Helper()
	if got, f := Show(l); got != want || f != (api.Fault{}) {
		t.Errorf("Show(%+v): %q, %v comes, not %q", l, got, f, want)
	}
}

func failsToShow(t *testing.T, l []api.Line, err api.Errno, at int) {
	t.Helper()
	if got, f := Show(l); got != "" || f.Err != err || f.At != at {
		t.Errorf("Show of %d lines: %d bytes, %v comes, not %d at %d", len(l), len(got), f, err, at)
	}
}

// D1

func TestNames(t *testing.T) {
	for _, s := range names {
		if !Named(s) {
			t.Errorf("%q is a name", s)
		}
	}
	for _, s := range noNames {
		if Named(s) {
			t.Errorf("%q is no name", s)
		}
	}
}

var aName = regexp.MustCompile(`\A(\.[a-z_0-9]{1,31}|[a-z_][a-z_0-9]{0,31})\z`)

// Every byte at the first, second, third and last place, ahead and behind of every other one.
func TestNamesByteByByte(t *testing.T) {
	for a := range 256 {
		for b := range 256 {
			two := string([]byte{byte(a), byte(b)})
			for _, s := range []string{two[:1], two, two + "a", "a" + two, "." + two, two + ".", strings.Repeat("x", 30) + two, strings.Repeat("x", 31) + two} {
				if got, want := Named(s), aName.MatchString(s); got != want {
					t.Fatalf("Named(%q): %v comes, not %v", s, got, want)
				}
			}
		}
	}
}

func TestNothingIsWrongWithLabels(t *testing.T) {
	for _, s := range names {
		isWrong(t, label(s), api.OK)
	}
}

// A label without bytes is none: the line is an instruction then.
func TestWhatIsWrongWithLabels(t *testing.T) {
	for _, s := range noNames[1:] {
		isWrong(t, label(s), api.ErrName)
		isWrong(t, api.Line{Label: s, Ref: "a", Ins: api.Instr{Op: 33, D: 8}}, api.ErrName)
	}
	for _, l := range []api.Line{
		{Label: "a", Ref: "b"}, {Label: "a", Ref: "a"}, {Label: "a", Ref: "A"},
		{Label: "a", Ins: api.Instr{Op: api.OpMov}}, {Label: "a", Ins: api.Instr{Op: 33}}, {Label: "a", Ins: api.Instr{Op: -1}},
		{Label: "a", Ins: api.Instr{D: 1}}, {Label: "a", Ins: api.Instr{S: 1}}, {Label: "a", Ins: api.Instr{Imm: 1}},
		{Label: "a", Ins: api.Instr{D: lowest}}, {Label: "a", Ins: api.Instr{S: 8}}, {Label: "a", Ins: api.Instr{Imm: highest}},
		{Label: "a", Ins: api.Instr{Op: api.OpJmp}, Ref: "b"},
	} {
		isWrong(t, l, api.ErrFit)
	}
}

func TestNothingIsWrongWithInstructions(t *testing.T) {
	isWrong(t, api.Line{}, api.OK)
	for _, k := range kinds {
		for _, r := range []int{0, 1, 7} {
			for _, imm := range []int{0, 1, 65535} {
				isWrong(t, line(k.op, r, 7-r, imm), api.OK)
			}
		}
	}
}

func TestWhatIsWrongWithInstructions(t *testing.T) {
	for _, op := range noKinds {
		isWrong(t, line(op, 8, 8, 65536), api.ErrKind)
		isWrong(t, refers(op, 0, 0, "A"), api.ErrKind)
	}
	for _, k := range kinds {
		rangeIf := func(f string) api.Errno {
			if strings.Contains(k.has, f) {
				return api.ErrRange
			}
			return api.OK
		}
		for _, r := range noRegisters {
			isWrong(t, line(k.op, r, 0, 0), rangeIf("d"))
			isWrong(t, line(k.op, 0, r, 0), rangeIf("s"))
		}
		for _, x := range noWords {
			isWrong(t, line(k.op, 0, 0, x), rangeIf("i"))
		}
	}
}

func TestWhatIsWrongWithRefs(t *testing.T) {
	for _, k := range kinds {
		fits := api.ErrFit
		if strings.Contains(k.has, "i") && k.op != api.OpTrap {
			fits = api.OK
		}
		for _, s := range names {
			isWrong(t, refers(k.op, 1, 2, s), fits)
		}
		for _, s := range noNames[1:] {
			isWrong(t, refers(k.op, 1, 2, s), api.ErrName)
		}
		for _, imm := range []int{1, 65535} {
			isWrong(t, api.Line{Ins: api.Instr{Op: k.op, Imm: imm}, Ref: "a"}, api.ErrFit)
			isWrong(t, api.Line{Ins: api.Instr{Op: k.op, Imm: imm}, Ref: "A"}, api.ErrName)
		}
	}
	isWrong(t, api.Line{Ins: api.Instr{Op: api.OpJmp, Imm: -1}, Ref: "A"}, api.ErrRange)
	isWrong(t, api.Line{Ins: api.Instr{Op: api.OpJmp, Imm: 65536}, Ref: "a"}, api.ErrRange)
	isWrong(t, refers(api.OpLdi, 8, 0, "A"), api.ErrRange)
}

// D2

// written is what Show must write of a line, made of the list of kinds alone.
func written(l api.Line) string {
	if l.Label != "" {
		return l.Label + ":\n"
	}
	k := kinds[l.Ins.Op]
	out, between := "\t"+k.word, " "
	for _, f := range k.has {
		what := l.Ref
		switch {
		case f == 'd':
			what = "r" + strconv.Itoa(l.Ins.D)
		case f == 's':
			what = "r" + strconv.Itoa(l.Ins.S)
		case what == "":
			what = strconv.Itoa(l.Ins.Imm)
		}
		out += between + what
		between = ", "
	}
	return out + "\n"
}

// lines are of every kind, at the edges of each field, with labels between them.
func lines() []api.Line {
	var out []api.Line
	for _, k := range kinds {
		out = append(out, label("."+k.word), label(k.word))
		for _, r := range []int{0, 3, 7} {
			for _, imm := range []int{0, 7, 10, 65535} {
				out = append(out, clean(line(k.op, r, 7-r, imm), k.has))
			}
			if strings.Contains(k.has, "i") && k.op != api.OpTrap {
				out = append(out, clean(refers(k.op, r, 7-r, "."+k.word), k.has), clean(refers(k.op, r, 7-r, "trap"), k.has))
			}
		}
	}
	return out
}

func TestShowByHand(t *testing.T) {
	for _, c := range []struct {
		l    api.Line
		want string
	}{
		{label("a"), "a:\n"}, {label(".x_1"), ".x_1:\n"}, {label(strings.Repeat("a", 32)), strings.Repeat("a", 32) + ":\n"},
		{api.Line{}, "\thalt\n"}, {line(api.OpRet, 0, 0, 0), "\tret\n"},
		{line(api.OpMov, 1, 2, 0), "\tmov r1, r2\n"}, {line(api.OpCpc, 7, 0, 0), "\tcpc r7, r0\n"},
		{line(api.OpLdi, 3, 0, 7), "\tldi r3, 7\n"}, {line(api.OpLdi, 0, 0, 65535), "\tldi r0, 65535\n"}, {refers(api.OpLdi, 3, 0, "a"), "\tldi r3, a\n"},
		{line(api.OpLd, 1, 2, 3), "\tld r1, r2, 3\n"}, {line(api.OpSt, 1, 2, 0), "\tst r1, r2, 0\n"}, {refers(api.OpSt, 1, 2, ".x"), "\tst r1, r2, .x\n"},
		{line(api.OpShl, 5, 0, 0), "\tshl r5\n"}, {line(api.OpPop, 5, 0, 0), "\tpop r5\n"}, {line(api.OpIn, 0, 0, 0), "\tin r0\n"},
		{line(api.OpPush, 0, 5, 0), "\tpush r5\n"}, {line(api.OpOut, 0, 7, 0), "\tout r7\n"},
		{line(api.OpJmp, 0, 0, 0), "\tjmp 0\n"}, {refers(api.OpJmp, 0, 0, "r1"), "\tjmp r1\n"}, {refers(api.OpCall, 0, 0, "mul2"), "\tcall mul2\n"},
		{line(api.OpTrap, 0, 0, 1), "\ttrap 1\n"},
	} {
		shows(t, []api.Line{c.l}, c.want)
	}
	shows(t, []api.Line{label("a"), refers(api.OpJmp, 0, 0, "a"), label("b"), label("b"), {}}, "a:\n\tjmp a\nb:\nb:\n\thalt\n")
	shows(t, nil, "")
	shows(t, []api.Line{}, "")
}

func TestShowOfEachKind(t *testing.T) {
	if len(kinds) != 33 {
		t.Fatalf("%d kinds, not 33", len(kinds))
	}
	whole := ""
	for _, l := range lines() {
		shows(t, []api.Line{l}, written(l))
		whole += written(l)
	}
	shows(t, lines(), whole)
}

func TestShowLeavesOutFieldsThatItHasNot(t *testing.T) {
	for _, k := range kinds {
		for _, x := range []int{lowest, -1, 8, 65536, highest} {
			l := line(k.op, x, x, x)
			for _, f := range k.has {
				switch f {
				case 'd':
					l.Ins.D = 1
				case 's':
					l.Ins.S = 2
				case 'i':
					l.Ins.Imm = 3
				}
			}
			shows(t, []api.Line{l}, written(l))
		}
	}
}

func TestShowTellsTheFirstThatIsWrong(t *testing.T) {
	fine := line(api.OpMov, 1, 2, 0)
	failsToShow(t, []api.Line{label("A")}, api.ErrName, 0)
	failsToShow(t, []api.Line{fine, {Label: "a", Ref: "b"}, label("A")}, api.ErrFit, 1)
	failsToShow(t, []api.Line{fine, label("a"), line(33, 0, 0, 0), label("A")}, api.ErrKind, 2)
	failsToShow(t, []api.Line{fine, fine, fine, line(api.OpMov, 8, 0, 0), line(33, 0, 0, 0)}, api.ErrRange, 3)
	failsToShow(t, []api.Line{fine, refers(api.OpJmp, 0, 0, "A"), refers(api.OpTrap, 0, 0, "a")}, api.ErrName, 1)
	failsToShow(t, []api.Line{fine, refers(api.OpTrap, 0, 0, "a"), refers(api.OpJmp, 0, 0, "A")}, api.ErrFit, 1)
}

func TestShowOfTooMany(t *testing.T) {
	many := slices.Repeat([]api.Line{refers(api.OpSt, 1, 2, strings.Repeat("x", 32))}, api.MaxLines+1)
	want := strings.Repeat("\tst r1, r2, "+strings.Repeat("x", 32)+"\n", api.MaxLines)
	if got, f := Show(many[:api.MaxLines]); got != want || f != (api.Fault{}) {
		t.Errorf("%d bytes, %v comes", len(got), f)
	}
	failsToShow(t, many, api.ErrMany, 0)
	many[7] = label("A")
	failsToShow(t, many, api.ErrMany, 0)
	failsToShow(t, many[:api.MaxLines], api.ErrName, 7)
	many[7], many[api.MaxLines-1] = label("a"), line(33, 0, 0, 0)
	failsToShow(t, many[:api.MaxLines], api.ErrKind, api.MaxLines-1)
}
