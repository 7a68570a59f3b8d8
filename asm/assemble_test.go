package asm

import (
	"maps"
	"slices"
	"strconv"
	"testing"

	"pairlegal/api"
	"pairlegal/emu"
)

func assembles(t *testing.T, l []api.Line, want ...int) {
	t.Helper()
	if got, f := Assemble(l); !slices.Equal(got, want) || f != (api.Fault{}) {
		t.Errorf("Assemble(%+v): %v, %v comes, not %v", l, got, f, want)
	}
}

func failsToAssemble(t *testing.T, l []api.Line, err api.Errno, at int) {
	t.Helper()
	if got, f := Assemble(l); len(got) != 0 || f.Err != err || f.At != at {
		t.Errorf("Assemble of %d lines: %d words, %v comes, not %d at %d", len(l), len(got), f, err, at)
	}
}

// read is for a test's text with which nothing is wrong.
func read(t *testing.T, text string) []api.Line {
	t.Helper()
	l, f := Read(text)
	if f != (api.Fault{}) {
		t.Fatalf("%q: %v", text, f)
	}
	return l
}

func repeated(l api.Line, n int, more ...api.Line) []api.Line {
	return append(slices.Repeat([]api.Line{l}, n), more...)
}

// D4

func TestWordsByHand(t *testing.T) {
	for _, c := range []struct {
		text string
		want []int
	}{
		{"", nil}, {"a:", nil}, {"a:\nb:\n.c:", nil},
		{"halt", []int{0}}, {"ldi r3, 7", []int{2432, 7}}, {"mov r1, r2", []int{1184}}, {"trap 5", []int{32768, 5}}, {"jmp 65535", []int{19456, 65535}},
		{"a:\njmp a", []int{19456, 0}},
		{"jmp a\na:\njmp a", []int{19456, 2, 19456, 2}},
		{"st r1, r2, .x\n.x:", []int{4256, 2}}, {"ldi r1, a\na:", []int{2176, 2}}, {"ld r1, r2, a\nhalt\na:", []int{3232, 3, 0}},
		{"halt\na:\nb:\nret\nc:\njmp a\njmp b\njmp c\njmp d\nd:", []int{0, 27648, 19456, 1, 19456, 1, 19456, 2, 19456, 10}},
		{"push r7\npop r0\nout r1\nin r2\nshl r3", []int{28784, 29696, 30736, 32000, 14720}},
		{"a:\n.a:\n_:\nhalt\naa:\ncall a\ncall .a\ncall _\ncall aa", []int{0, 26624, 0, 26624, 0, 26624, 0, 26624, 1}},
	} {
		assembles(t, read(t, c.text), c.want...)
	}
	assembles(t, nil)
	assembles(t, []api.Line{})
}

// Each label lies where the lines ahead of it end, whoever speaks of it from wherever.
func TestEachLabelLiesWhereItSays(t *testing.T) {
	var l []api.Line
	var want []int
	places := map[string]int{}
	for _, k := range kinds {
		name := "." + k.word
		l = append(l, label(name), clean(line(k.op, 5, 6, 999), k.has))
		places[name] = len(want)
		i := clean(line(k.op, 5, 6, 999), k.has).Ins
		want = append(want, k.op*1024+i.D*128+i.S*16)
		if i.Imm != 0 {
			want = append(want, 999)
		}
	}
	for _, k := range kinds {
		l = append([]api.Line{refers(api.OpJmp, 0, 0, "."+k.word)}, append(l, refers(api.OpLd, 1, 2, "."+k.word))...)
	}
	words := []int{}
	for at := range kinds {
		words = append(words, 19456, 2*len(kinds)+places["."+kinds[len(kinds)-1-at].word])
	}
	words = append(words, want...)
	for _, k := range kinds {
		words = append(words, 3232, 2*len(kinds)+places["."+k.word])
	}
	assembles(t, l, words...)
}

func TestFieldsThatItHasNotMakeNoWords(t *testing.T) {
	assembles(t, []api.Line{line(api.OpRet, -1, 99, 65536), line(api.OpMov, 1, 2, lowest), line(api.OpPush, highest, 7, -5)}, 27648, 1184, 28784)
	assembles(t, []api.Line{label("a"), {Ins: api.Instr{Op: api.OpJmp, D: 99, S: -1}, Ref: "a"}}, 19456, 0)
}

func TestAssembleTellsTheFirstThatIsWrong(t *testing.T) {
	fine, none := line(api.OpMov, 1, 2, 0), refers(api.OpJmp, 0, 0, "b")
	failsToAssemble(t, []api.Line{label("A")}, api.ErrName, 0)
	failsToAssemble(t, []api.Line{fine, {Label: "a", Ref: "b"}, label("A")}, api.ErrFit, 1)
	failsToAssemble(t, []api.Line{fine, label("a"), line(33, 0, 0, 0), label("a")}, api.ErrKind, 2)
	failsToAssemble(t, []api.Line{fine, fine, fine, line(api.OpMov, 8, 0, 0), line(33, 0, 0, 0)}, api.ErrRange, 3)
	failsToAssemble(t, []api.Line{none, refers(api.OpJmp, 0, 0, "A")}, api.ErrName, 1)
	failsToAssemble(t, []api.Line{none, refers(api.OpTrap, 0, 0, "b"), label("b")}, api.ErrFit, 1)
	failsToAssemble(t, []api.Line{none, {Ins: api.Instr{Op: api.OpJmp, Imm: 1}, Ref: "b"}}, api.ErrFit, 1)
}

func TestLabelsThatAreThereAhead(t *testing.T) {
	a, b, fine := label("a"), label("b"), line(api.OpRet, 0, 0, 0)
	failsToAssemble(t, []api.Line{a, a}, api.ErrName, 1)
	failsToAssemble(t, []api.Line{a, b, fine, b, a}, api.ErrName, 3)
	failsToAssemble(t, []api.Line{a, fine, {Label: "a", Ref: "x"}, a}, api.ErrFit, 2)
	failsToAssemble(t, []api.Line{a, fine, a, line(33, 0, 0, 0)}, api.ErrName, 2)
	failsToAssemble(t, []api.Line{label(".a"), label("a"), label("_a"), label("aa"), label(".a")}, api.ErrName, 4)
	assembles(t, []api.Line{label(".a"), label("a"), label("_a"), label("aa"), fine}, 27648)
}

// What is no label is told only if all lines are fine; and then at the first one, not at the first name.
func TestRefsThatAreNoLabels(t *testing.T) {
	to := func(name string) api.Line { return refers(api.OpCall, 0, 0, name) }
	failsToAssemble(t, []api.Line{to("b")}, api.ErrNone, 0)
	failsToAssemble(t, []api.Line{label("b"), to("b"), to("z"), to("a")}, api.ErrNone, 2)
	failsToAssemble(t, []api.Line{to(".a"), label("a")}, api.ErrNone, 0)
	failsToAssemble(t, []api.Line{label("a"), to("aa")}, api.ErrNone, 1)
	failsToAssemble(t, []api.Line{to("b"), label("a"), label("a")}, api.ErrName, 2)
	failsToAssemble(t, []api.Line{to("b"), line(api.OpMov, 0, 8, 0)}, api.ErrRange, 1)
	failsToAssemble(t, repeated(to("b"), api.MaxMem/2+1), api.ErrMuch, api.MaxMem/2)
	failsToAssemble(t, repeated(line(api.OpLdi, 0, 0, 0), api.MaxMem/2-1, to("b")), api.ErrNone, api.MaxMem/2-1)
}

func TestAssembleOfTooMuch(t *testing.T) {
	short, long := line(api.OpRet, 0, 0, 0), line(api.OpLdi, 1, 0, 5)
	full := repeated(long, api.MaxMem/2)
	if words, f := Assemble(full); len(words) != api.MaxMem || f != (api.Fault{}) {
		t.Errorf("%d words, %v comes", len(words), f)
	}
	failsToAssemble(t, append(slices.Clone(full), short), api.ErrMuch, api.MaxMem/2)
	failsToAssemble(t, append(slices.Clone(full), long), api.ErrMuch, api.MaxMem/2)
	failsToAssemble(t, repeated(long, api.MaxMem/2-1, short, long), api.ErrMuch, api.MaxMem/2)
	failsToAssemble(t, append(slices.Clone(full), label("a"), label("b"), short, label("a")), api.ErrMuch, api.MaxMem/2+2)
	failsToAssemble(t, append(slices.Clone(full), label("a"), label("a"), short), api.ErrName, api.MaxMem/2+1)
	failsToAssemble(t, append(slices.Clone(full), line(33, 0, 0, 0)), api.ErrKind, api.MaxMem/2)
	failsToAssemble(t, append(slices.Clone(full), line(api.OpMov, 8, 0, 0)), api.ErrRange, api.MaxMem/2)
}

// A label behind all words that memory has is where the first one lies.
func TestPlacesGoRound(t *testing.T) {
	for n, want := range map[int]int{api.MaxMem/2 - 1: 0, api.MaxMem/2 - 2: 65534} {
		l := append([]api.Line{refers(api.OpJmp, 0, 0, "a")}, repeated(line(api.OpLdi, 1, 0, 5), n, label("a"))...)
		words, f := Assemble(l)
		if f != (api.Fault{}) || len(words) != 2*n+2 || words[1] != want {
			t.Errorf("%d words, %v comes, or another place than %d", len(words), f, want)
		}
	}
	l := append([]api.Line{refers(api.OpJmp, 0, 0, "a")}, repeated(line(api.OpLdi, 1, 0, 5), api.MaxMem/2-2, line(api.OpRet, 0, 0, 0), label("a"))...)
	if words, f := Assemble(l); f != (api.Fault{}) || words[1] != 65535 {
		t.Errorf("%v comes, or another place than 65535", f)
	}
}

func TestAssembleOfTooManyLines(t *testing.T) {
	many := repeated(line(api.OpHalt, 0, 0, 0), api.MaxLines+1)
	if words, f := Assemble(many[:api.MaxLines]); len(words) != api.MaxLines || f != (api.Fault{}) {
		t.Errorf("%d words, %v comes", len(words), f)
	}
	failsToAssemble(t, many, api.ErrMany, 0)
	many[3] = label("A")
	failsToAssemble(t, many, api.ErrMany, 0)
	failsToAssemble(t, many[:api.MaxLines], api.ErrName, 3)
	for i := range many {
		many[i] = label("a" + strconv.Itoa(i))
	}
	assembles(t, many[:api.MaxLines])
	failsToAssemble(t, many, api.ErrMany, 0)
}

// Lines whose labels stand in other lines, too, are put together by these two.
func TestPlacesOfLabels(t *testing.T) {
	places, words, f := Places(read(t, "jmp b\na:\n.x:\nhalt\nc:\njmp a"))
	if want := map[string]int{"a": 2, ".x": 2, "c": 3}; !maps.Equal(places, want) || words != 5 || f != (api.Fault{}) {
		t.Errorf("%v, %d, %v comes, not %v", places, words, f, want)
	}
	for _, c := range []struct {
		l    []api.Line
		want api.Fault
	}{
		{make([]api.Line, api.MaxLines+1), api.Fault{Err: api.ErrMany}},
		{[]api.Line{{}, label("A")}, api.Fault{Err: api.ErrName, At: 1}},
		{[]api.Line{label("a"), {}, label("a")}, api.Fault{Err: api.ErrName, At: 2}},
		{repeated(line(api.OpLdi, 0, 0, 0), api.MaxMem/2+1), api.Fault{Err: api.ErrMuch, At: api.MaxMem / 2}},
	} {
		if places, words, f := Places(c.l); places != nil || words != 0 || f != c.want {
			t.Errorf("%v, %d, %v comes, not %v", places, words, f, c.want)
		}
	}
}

func TestLabelsThatOthersHave(t *testing.T) {
	var asked []string
	find := func(name string) (int, bool) {
		asked = append(asked, name)
		return 65536 + len(name), name != "none"
	}
	got, f := Resolve(read(t, "jmp bb\na:\nldi r1, 9\nldi r2, a\njmp bb"), find)
	want := []api.Instr{{Op: api.OpJmp, Imm: 2}, {Op: api.OpLdi, D: 1, Imm: 9}, {Op: api.OpLdi, D: 2, Imm: 1}, {Op: api.OpJmp, Imm: 2}}
	if !slices.Equal(got, want) || f != (api.Fault{}) || !slices.Equal(asked, []string{"bb", "a", "bb"}) {
		t.Errorf("%v, %v comes, and %v is asked", got, f, asked)
	}
	asked = nil
	got, f = Resolve(read(t, "jmp b\na:\njmp none\njmp c"), find)
	if got != nil || f != (api.Fault{Err: api.ErrNone, At: 2}) || !slices.Equal(asked, []string{"b", "none"}) {
		t.Errorf("%v, %v comes, and %v is asked", got, f, asked)
	}
}

// The machine runs what is assembled: it tells as many letters as came in says, down to A.
func TestWhatIsAssembledRuns(t *testing.T) {
	l := read(t, `
		ldi r7, stack ; it goes down from here
		in r0
		ldi r1, 1
	.loop: ; while any are left
		cmp r0, r1
		jc .done
		call tell
		sub r0, r1
		jmp .loop
	tell:
		push r0
		ldi r2, 64
		add r0, r2
		out r0
		pop r0
		ret
	.done:
		trap 9
	stack:
	`)
	words, f := Assemble(l)
	if f != (api.Fault{}) {
		t.Fatal(f)
	}
	ran, err := emu.Run(words, api.State{}, []byte{5}, 1000)
	if err != api.OK || ran.How != api.RanTrap || ran.Trap != 9 || string(ran.Output) != "EDCBA" {
		t.Errorf("%d, %d, %d, %q comes", err, ran.How, ran.Trap, ran.Output)
	}
}

// Z2

func TestWhatIsHandedInIsOnlyRead(t *testing.T) {
	room := []api.Line{label("a"), refers(api.OpJmp, 9, -1, "a"), refers(api.OpLdi, 1, 0, "b"), label("b"), label("A"), line(99, 0, 0, 0)}
	before := slices.Clone(room)
	assembles(t, room[:2], 19456, 0)
	assembles(t, room[:4], 19456, 0, 2176, 4)
	shows(t, room[:3], "a:\n\tjmp a\n\tldi r1, b\n")
	failsToAssemble(t, room[:3], api.ErrNone, 2)
	if !slices.Equal(room, before) {
		t.Errorf("%+v becomes %+v", before, room)
	}
}

func TestAnswersAreTheCallersOwn(t *testing.T) {
	l := read(t, "a:\n\tjmp a")
	other := read(t, "a:\n\tjmp a")
	first, _ := Assemble(l)
	second, _ := Assemble(l)
	clear(first[:cap(first)])
	clear(l[:cap(l)])
	if !slices.Equal(second, []int{19456, 0}) {
		t.Errorf("%v comes", second)
	}
	if want := []api.Line{label("a"), refers(api.OpJmp, 0, 0, "a")}; !slices.Equal(other, want) {
		t.Errorf("%+v comes", other)
	}
}
