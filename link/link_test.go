package link

import (
	"slices"
	"strconv"
	"strings"
	"testing"
	"unsafe"

	"pairlegal/api"
	"pairlegal/asm"
	"pairlegal/emu"
)

// unit is for a test's text with which nothing is wrong; a `;` ends a line here.
func unit(t *testing.T, text string) api.Unit {
	t.Helper()
	l, f := asm.Read(strings.ReplaceAll(text, ";", "\n"))
	if f != (api.Fault{}) {
		t.Fatalf("%q: %v", text, f)
	}
	return api.Unit{Lines: l}
}

func units(t *testing.T, texts ...string) []api.Unit {
	t.Helper()
	var out []api.Unit
	for _, s := range texts {
		out = append(out, unit(t, s))
	}
	return out
}

func same(a, b api.Image) bool {
	return slices.Equal(a.Words, b.Words) && slices.Equal(a.Units, b.Units) && slices.Equal(a.Spots, b.Spots)
}

func links(t *testing.T, l []api.Unit, entry string, want api.Image) {
	t.Helper()
	if got, f := Link(l, entry); !same(got, want) || f != (api.Fault{}) {
		t.Errorf("Link(%+v, %q): %+v, %v comes, not %+v", l, entry, got, f, want)
	}
}

func fails(t *testing.T, l []api.Unit, entry string, err api.Errno, at int) {
	t.Helper()
	got, f := Link(l, entry)
	if !same(got, api.Image{}) || f.Err != err || f.At != at {
		t.Errorf("Link of %d units, %q: %d words, %v comes, not %d at %d", len(l), entry, len(got.Words), f, err, at)
	}
}

// words answers lines that make n words.
func words(n int) []api.Line {
	out := slices.Repeat([]api.Line{{Ins: api.Instr{Op: api.OpLdi, D: 1, Imm: 5}}}, n/2)
	if n%2 == 1 {
		out = append(out, api.Line{Ins: api.Instr{Op: api.OpRet}})
	}
	return out
}

// with answers a unit of the text's lines, and of others behind them.
func with(t *testing.T, text string, more ...api.Line) api.Unit {
	t.Helper()
	u := unit(t, text)
	u.Lines = append(u.Lines, more...)
	return u
}

func label(name string) api.Line { return api.Line{Label: name} }

// E1

func TestLabelsThatAreAUnitsAlone(t *testing.T) {
	// Each one goes to its own; two units may have the same.
	links(t, units(t, "a:;.x:;jmp .x;call b", "b:;halt;.x:;jmp .x"), "a",
		api.Image{Words: []int{19456, 0, 26624, 4, 0, 19456, 5}, Units: []int{0, 1}, Spots: []api.Spot{{Name: "a"}, {Name: "b", At: 4}}})
	// No other unit's is taken, whether it is put or not.
	fails(t, units(t, "a:;jmp .x", ".x:;b:"), "a", api.ErrNone, 0)
	fails(t, units(t, ".x:;b:", "a:;call b;jmp .x"), "a", api.ErrNone, 1)
	fails(t, units(t, "a:;.x:;call b", "b:;jmp .x"), "a", api.ErrNone, 1)
	// The `.` is part of the name.
	fails(t, units(t, "a:;jmp x;.x:"), "a", api.ErrNone, 0)
	fails(t, units(t, "a:;jmp .x;x:"), "a", api.ErrNone, 0)
	links(t, units(t, "a:;jmp .a;.a:;jmp a"), "a", api.Image{Words: []int{19456, 2, 19456, 0}, Units: []int{0}, Spots: []api.Spot{{Name: "a"}}})
}

func TestUnitsWhoseNamesAreTheSame(t *testing.T) {
	l := units(t, "a:;call b", "b:;ret")
	want := api.Image{Words: []int{26624, 2, 27648}, Units: []int{0, 1}, Spots: []api.Spot{{Name: "a"}, {Name: "b", At: 2}}}
	for _, name := range []string{"", "u", "a", ".", "No Name", strings.Repeat("n", 100)} {
		l[0].Name, l[1].Name = name, name
		links(t, l, "a", want)
	}
}

func TestTooManyUnits(t *testing.T) {
	l := make([]api.Unit, api.MaxUnits+1)
	l[api.MaxUnits-1] = unit(t, "a:;halt")
	links(t, l[:api.MaxUnits], "a", api.Image{Words: []int{0}, Units: []int{api.MaxUnits - 1}, Spots: []api.Spot{{Name: "a"}}})
	fails(t, l[:api.MaxUnits], "b", api.ErrNone, api.MaxUnits)
	fails(t, l, "a", api.ErrMany, 0)
	fails(t, l, "b", api.ErrMany, 0)
	l[0].Lines = []api.Line{label("A")}
	fails(t, l, "a", api.ErrMany, 0)
	fails(t, l[:api.MaxUnits], "a", api.ErrName, 0)
}

func TestTooManyLines(t *testing.T) {
	a := unit(t, "a:;halt")
	many := make([]api.Line, api.MaxLines+1)
	many[7] = label("A")
	fails(t, []api.Unit{a, {Lines: many}}, "a", api.ErrMany, 1)
	fails(t, []api.Unit{{Lines: many}, a, {Lines: []api.Line{label("B")}}}, "a", api.ErrMany, 0)
	fails(t, []api.Unit{a, {Lines: []api.Line{label("B")}}, {Lines: many}}, "a", api.ErrName, 1)
	fails(t, []api.Unit{a, {Lines: many[:api.MaxLines]}}, "a", api.ErrName, 1)
	many[7] = label("a")
	fails(t, []api.Unit{a, {Lines: many}}, "a", api.ErrMany, 1)
	many[7] = label("b")
	links(t, []api.Unit{a, {Lines: many[:api.MaxLines]}}, "a", api.Image{Words: []int{0}, Units: []int{0}, Spots: []api.Spot{{Name: "a"}}})
	got, f := Link([]api.Unit{a, {Lines: many[:api.MaxLines]}}, "b")
	if len(got.Words) != api.MaxLines-1 || !slices.Equal(got.Units, []int{1}) || !slices.Equal(got.Spots, []api.Spot{{Name: "b", At: 7}}) || f != (api.Fault{}) {
		t.Errorf("%d words, %v, %v, %v comes", len(got.Words), got.Units, got.Spots, f)
	}
}

// wrongLines are lines of which each makes a unit wrong, with the error.
var wrongLines = []struct {
	l   api.Line
	err api.Errno
}{
	{label("A"), api.ErrName}, {label("."), api.ErrName}, {label("1"), api.ErrName}, {label(strings.Repeat("a", api.MaxName+1)), api.ErrName},
	{api.Line{Label: "x", Ref: "a"}, api.ErrFit}, {api.Line{Label: "x", Ins: api.Instr{D: 1}}, api.ErrFit}, {api.Line{Label: ".x", Ins: api.Instr{Op: 1}}, api.ErrFit},
	{api.Line{Ins: api.Instr{Op: 33}}, api.ErrKind}, {api.Line{Ins: api.Instr{Op: -1}}, api.ErrKind},
	{api.Line{Ins: api.Instr{Op: api.OpMov, D: 8}}, api.ErrRange}, {api.Line{Ins: api.Instr{Op: api.OpJmp, Imm: 65536}, Ref: "a"}, api.ErrRange},
	{api.Line{Ins: api.Instr{Op: api.OpJmp}, Ref: "A"}, api.ErrName}, {api.Line{Ins: api.Instr{Op: api.OpJmp}, Ref: "."}, api.ErrName},
	{api.Line{Ins: api.Instr{Op: api.OpTrap}, Ref: "a"}, api.ErrFit}, {api.Line{Ins: api.Instr{Op: api.OpMov}, Ref: "a"}, api.ErrFit}, {api.Line{Ins: api.Instr{Op: api.OpJmp, Imm: 1}, Ref: "a"}, api.ErrFit},
}

// A unit must be fine, whether it is needed or not; where entry is, and what lies behind, is asked later.
func TestWhatIsWrongWithLines(t *testing.T) {
	a := unit(t, "a:;halt")
	for _, c := range wrongLines {
		for _, more := range []string{"", ".u:;ret;.v:", "b:;jmp nowhere", "a:"} {
			bad := with(t, more, c.l)
			fails(t, []api.Unit{a, bad}, "a", c.err, 1)
			fails(t, []api.Unit{a, unit(t, ".x:"), bad, {Lines: []api.Line{{Ins: api.Instr{Op: 99}}}}}, "zz", c.err, 2)
			bad.Lines = append(bad.Lines, api.Line{Ins: api.Instr{Op: 34}}, api.Line{Ins: api.Instr{Op: api.OpMov, S: 9}})
			fails(t, []api.Unit{bad, a}, "a", c.err, 0)
		}
	}
	fails(t, units(t, "a:", "b:;.x:;c:;.x:;d:"), "a", api.ErrName, 1)
	fails(t, units(t, "a:", "b:;c:;b:"), "a", api.ErrName, 1)
	fails(t, []api.Unit{a, with(t, "c:;c:", api.Line{Ins: api.Instr{Op: 33}})}, "a", api.ErrName, 1)
	fails(t, []api.Unit{a, with(t, "", api.Line{Ins: api.Instr{Op: 33}}, label("c"), label("c"))}, "a", api.ErrKind, 1)
}

func TestAUnitThatIsTooMuchByItself(t *testing.T) {
	a, full := unit(t, "a:;halt"), words(api.MaxMem)
	links(t, []api.Unit{a, {Lines: full}}, "a", api.Image{Words: []int{0}, Units: []int{0}, Spots: []api.Spot{{Name: "a"}}})
	fails(t, []api.Unit{a, {Lines: append(words(api.MaxMem), api.Line{})}}, "a", api.ErrMuch, 1)
	fails(t, []api.Unit{a, {Lines: append(words(api.MaxMem-1), words(2)...)}}, "zz", api.ErrMuch, 1)
	fails(t, []api.Unit{a, with(t, "a:", words(api.MaxMem+1)...)}, "a", api.ErrMuch, 1)
	fails(t, []api.Unit{a, with(t, "a:", words(api.MaxMem)...)}, "a", api.ErrName, 1)
	fails(t, []api.Unit{a, with(t, "b:", append(full, label("b"), api.Line{})...)}, "a", api.ErrName, 1)
}

func TestLabelsThatAreTaken(t *testing.T) {
	fails(t, units(t, "a:", "a:"), "a", api.ErrName, 1)
	fails(t, units(t, "a:;b:;c:", "d:", "e:;c:;f:", "a:"), "a", api.ErrName, 2)
	fails(t, units(t, "a:", "b:", "c:", "b:", "c:"), "zz", api.ErrName, 3)
	// What is wrong with the unit's own lines is told first, wherever they stand.
	for _, c := range wrongLines {
		fails(t, []api.Unit{unit(t, "a:"), with(t, "a:;halt", c.l)}, "a", c.err, 1)
	}
	// The number is that of the later unit; a unit between them that is wrong comes first.
	fails(t, []api.Unit{unit(t, "a:"), with(t, "", api.Line{Ins: api.Instr{Op: 33}}), unit(t, "a:")}, "a", api.ErrKind, 1)
	fails(t, []api.Unit{unit(t, "a:"), unit(t, "a:"), with(t, "", api.Line{Ins: api.Instr{Op: 33}})}, "a", api.ErrName, 1)
	links(t, units(t, "a:;.x:", ".a:;.x:", ".x:;_a:;aa:"), "a", api.Image{Units: []int{0}, Spots: []api.Spot{{Name: "a"}}})
}

func TestThereIsNoEntry(t *testing.T) {
	fails(t, nil, "a", api.ErrNone, 0)
	fails(t, []api.Unit{}, "", api.ErrNone, 0)
	fails(t, make([]api.Unit, 3), "", api.ErrNone, 3)
	for _, entry := range []string{"", ".x", "x", "aa", "A", ".", "a:", "a ", " a", "a\n", "\x00", "b", ".a", strings.Repeat("a", 100000)} {
		fails(t, units(t, "a:;.x:;jmp b", ".x:;jmp nowhere"), entry, api.ErrNone, 2)
	}
	// What is wrong in a unit is told ahead of it; what isn't found behind it.
	fails(t, units(t, "a:", "a:"), "zz", api.ErrName, 1)
	fails(t, units(t, "a:;jmp nowhere"), "zz", api.ErrNone, 1)
	fails(t, units(t, "a:;jmp nowhere"), "a", api.ErrNone, 0)
	links(t, units(t, "_:"), "_", api.Image{Units: []int{0}, Spots: []api.Spot{{Name: "_"}}})
}

// E2

func TestImagesByHand(t *testing.T) {
	for _, c := range []struct {
		texts []string
		entry string
		want  api.Image
	}{
		{[]string{"a:"}, "a", api.Image{Units: []int{0}, Spots: []api.Spot{{Name: "a"}}}},
		{[]string{"halt;a:"}, "a", api.Image{Words: []int{0}, Units: []int{0}, Spots: []api.Spot{{Name: "a", At: 1}}}},
		{[]string{"ldi r3, 7;a:;b:;ld r1, r2, b;c:"}, "b", api.Image{Words: []int{2432, 7, 3232, 2}, Units: []int{0}, Spots: []api.Spot{{Name: "a", At: 2}, {Name: "b", At: 2}, {Name: "c", At: 4}}}},
		// Units that nobody speaks of are left out, and so are those that speak of others alone.
		{[]string{"a:;call b", "b:;ret", "c:;call a"}, "a", api.Image{Words: []int{26624, 2, 27648}, Units: []int{0, 1}, Spots: []api.Spot{{Name: "a"}, {Name: "b", At: 2}}}},
		{[]string{"a:;call b", "b:;ret", "c:;call a"}, "b", api.Image{Words: []int{27648}, Units: []int{1}, Spots: []api.Spot{{Name: "b"}}}},
		{[]string{"a:;call b", "b:;ret", "c:;call a"}, "c", api.Image{Words: []int{26624, 2, 26624, 4, 27648}, Units: []int{2, 0, 1}, Spots: []api.Spot{{Name: "c"}, {Name: "a", At: 2}, {Name: "b", At: 4}}}},
		{[]string{"a:;halt", "b:;jmp nowhere", ".x:;jmp .y"}, "a", api.Image{Words: []int{0}, Units: []int{0}, Spots: []api.Spot{{Name: "a"}}}},
		// In the order in which they are spoken of, each one once; those of the first unit ahead of those that they speak of.
		{[]string{"d:;halt", "c:;halt;call d", "b:;halt;call d;call e", "a:;call c;call b;call c;call a", "e:;halt"}, "a", api.Image{
			Words: []int{26624, 8, 26624, 11, 26624, 8, 26624, 0, 0, 26624, 16, 0, 26624, 16, 26624, 17, 0, 0},
			Units: []int{3, 1, 2, 0, 4}, Spots: []api.Spot{{Name: "a"}, {Name: "c", At: 8}, {Name: "b", At: 11}, {Name: "d", At: 16}, {Name: "e", At: 17}}}},
		// A unit that is spoken of by its second label, and one that speaks of itself.
		{[]string{"a:;jmp c;jmp a", "b:;jmp c;c:;jmp b"}, "a", api.Image{Words: []int{19456, 6, 19456, 0, 19456, 6, 19456, 4}, Units: []int{0, 1}, Spots: []api.Spot{{Name: "a"}, {Name: "b", At: 4}, {Name: "c", At: 6}}}},
		// A unit without words lies where the next one begins.
		{[]string{"a:;jmp b;jmp c", "b:", "c:;halt"}, "a", api.Image{Words: []int{19456, 4, 19456, 4, 0}, Units: []int{0, 1, 2}, Spots: []api.Spot{{Name: "a"}, {Name: "b", At: 4}, {Name: "c", At: 4}}}},
		// Ahead of its labels a unit may have words, and a place may be told by any kind that has one.
		{[]string{"ldi r1, b;st r2, r3, c;a:;ret", "b:;c:;ld r4, r5, .x;.x:"}, "a", api.Image{Words: []int{2176, 5, 4400, 5, 27648, 3664, 7}, Units: []int{0, 1}, Spots: []api.Spot{{Name: "a", At: 4}, {Name: "b", At: 5}, {Name: "c", At: 5}}}},
		{[]string{"", "", "a:;ret", ""}, "a", api.Image{Words: []int{27648}, Units: []int{2}, Spots: []api.Spot{{Name: "a"}}}},
	} {
		links(t, units(t, c.texts...), c.entry, c.want)
	}
}

func TestFieldsThatItHasNotMakeNoWords(t *testing.T) {
	links(t, []api.Unit{{Lines: []api.Line{label("a"), {Ins: api.Instr{Op: api.OpJmp, D: 99, S: -1}, Ref: "a"}, {Ins: api.Instr{Op: api.OpRet, D: 8, S: 8, Imm: -1}}}}}, "a",
		api.Image{Words: []int{19456, 0, 27648}, Units: []int{0}, Spots: []api.Spot{{Name: "a"}}})
}

func TestRefsThatAreNoLabels(t *testing.T) {
	fails(t, units(t, "a:;jmp b"), "a", api.ErrNone, 0)
	fails(t, units(t, "", "a:;call c;jmp d", "c:;jmp b"), "a", api.ErrNone, 1)
	fails(t, units(t, "", "a:;call c", "d:;jmp b", "c:;call d"), "a", api.ErrNone, 2)
	// The unit that was put first, not the one with the lower number.
	fails(t, units(t, "b:;jmp y", "c:;jmp z", "a:;call c;call b"), "a", api.ErrNone, 1)
	fails(t, units(t, "b:;jmp y", "c:;jmp z", "a:;call b;call c"), "a", api.ErrNone, 0)
	fails(t, units(t, "b:;jmp y", "c:;jmp z", "a:;call b;call c;jmp .z"), "a", api.ErrNone, 2)
}

func TestTooMuchInAll(t *testing.T) {
	a := unit(t, "a:;call b;call c")
	b := with(t, "b:", words(api.MaxMem-8)...)
	l := []api.Unit{with(t, "c:", words(5)...), b, a}
	fails(t, l, "a", api.ErrMuch, 0)
	l[0] = with(t, "c:", words(4)...)
	got, f := Link(l, "a")
	if len(got.Words) != api.MaxMem || !slices.Equal(got.Units, []int{2, 1, 0}) || got.Words[3] != api.MaxMem-4 || f != (api.Fault{}) {
		t.Errorf("%d words, %v, %v comes", len(got.Words), got.Units, f)
	}
	// What is put ahead is told first, wherever it stands: its lines ahead of how much the next one is.
	l[0] = with(t, "c:", words(5)...)
	fails(t, []api.Unit{l[0], b, unit(t, "a:;call b;call c;jmp .x")}, "a", api.ErrNone, 2)
	fails(t, []api.Unit{l[0], with(t, "b:;jmp .x", words(api.MaxMem-10)...), a}, "a", api.ErrNone, 1)
	fails(t, []api.Unit{with(t, "c:;jmp .x", words(3)...), b, a}, "a", api.ErrMuch, 0)
	fails(t, []api.Unit{with(t, "c:;jmp .x", words(2)...), b, a}, "a", api.ErrNone, 0)
	// The first one that doesn't lie within, though those behind it would.
	fails(t, []api.Unit{unit(t, "c:;ret"), with(t, "b:", words(api.MaxMem-3)...), a}, "a", api.ErrMuch, 1)
	fails(t, []api.Unit{with(t, "c:", words(api.MaxMem)...), with(t, "b:", words(api.MaxMem)...), a}, "a", api.ErrMuch, 1)
}

// Units that make nothing lie within memory even where it is full; a place there is that of the first word for whoever speaks of it.
func TestPlacesGoRound(t *testing.T) {
	l := []api.Unit{with(t, "a:;jmp .x;jmp b;jmp c;jmp d", append(words(api.MaxMem-8), label(".x"), label("b"))...), unit(t, "c:;.x:"), unit(t, "d:")}
	got, f := Link(l, "a")
	spots := []api.Spot{{Name: "a"}, {Name: "b", At: api.MaxMem}, {Name: "c", At: api.MaxMem}, {Name: "d", At: api.MaxMem}}
	if f != (api.Fault{}) || len(got.Words) != api.MaxMem || !slices.Equal(got.Words[:8], []int{19456, 0, 19456, 0, 19456, 0, 19456, 0}) || !slices.Equal(got.Spots, spots) || !slices.Equal(got.Units, []int{0, 1, 2}) {
		t.Errorf("%d words, %v, %v, %v comes", len(got.Words), got.Spots, got.Units, f)
	}
	l[0] = with(t, "a:;jmp .x;jmp b;jmp c;jmp d", append(words(api.MaxMem-9), label(".x"), label("b"))...)
	got, f = Link(l, "a")
	if f != (api.Fault{}) || len(got.Words) != api.MaxMem-1 || !slices.Equal(got.Words[:8], []int{19456, 65535, 19456, 65535, 19456, 65535, 19456, 65535}) || got.Spots[3].At != 65535 {
		t.Errorf("%d words, %v, %v comes", len(got.Words), got.Spots, f)
	}
	l[2] = unit(t, "d:;ret;ret")
	fails(t, l, "a", api.ErrMuch, 2)
}

// Four hundred units, each of which speaks of the one ahead of it: they are put from the last one to the first.
func TestAsManyUnitsAsThereMayBe(t *testing.T) {
	var l []api.Unit
	var want api.Image
	for n := range api.MaxUnits {
		l = append(l, unit(t, "u"+strconv.Itoa(n)+":;jmp u"+strconv.Itoa((n+api.MaxUnits-1)%api.MaxUnits)))
		back := api.MaxUnits - 1 - n
		want.Words = append(want.Words, 19456, 2*(n+1)%(2*api.MaxUnits))
		want.Units = append(want.Units, back)
		want.Spots = append(want.Spots, api.Spot{Name: "u" + strconv.Itoa(back), At: 2 * n})
	}
	links(t, l, "u"+strconv.Itoa(api.MaxUnits-1), want)
}

// The machine runs what is linked, from the place of each label for all.
func TestWhatIsLinkedRuns(t *testing.T) {
	l := units(t,
		"tell:;push r0;ldi r2, 64;add r0, r2;out r0;pop r0;ret",
		"unused:;call tell;trap 1",
		"halt;count:;.loop:;cmp r0, r1;jc .done;call tell;sub r0, r1;jmp .loop;.done:;ret",
		"main:;in r0;ldi r1, 1;ldi r7, 60000;call count;.loop:;trap 9")
	got, f := Link(l, "main")
	if f != (api.Fault{}) || !slices.Equal(got.Units, []int{3, 2, 0}) {
		t.Fatalf("%v, %v comes", got.Units, f)
	}
	ran, err := emu.Run(got.Words, api.State{}, []byte{5}, 1000)
	if err != api.OK || ran.How != api.RanTrap || ran.Trap != 9 || string(ran.Output) != "EDCBA" {
		t.Errorf("%d, %d, %d, %q comes", err, ran.How, ran.Trap, ran.Output)
	}
}

// plain is what the document says, in another way: each label for all is looked for in all units, and the words are those that chapter 4 makes of all lines behind one another, with names that no two units share.
func plain(l []api.Unit, entry string) (api.Image, api.Fault) {
	has := func(n int, name string) bool { return slices.Contains(l[n].Lines, label(name)) }
	owner := func(from int, name string) int {
		for n := range l {
			if has(n, name) && (name[0] != '.' || n == from) {
				return n
			}
		}
		return -1
	}
	for n, u := range l {
		for _, x := range u.Lines {
			if x.Label != "" && (owner(n, x.Label) != n || len(slices.DeleteFunc(slices.Clone(u.Lines), func(y api.Line) bool { return y.Label != x.Label })) > 1) {
				return api.Image{}, api.Fault{Err: api.ErrName, At: n}
			}
		}
	}
	first := owner(-1, entry)
	if first < 0 {
		return api.Image{}, api.Fault{Err: api.ErrNone, At: len(l)}
	}
	order := []int{first}
	var all []api.Line
	for i := 0; i < len(order); i++ {
		n := order[i]
		for _, x := range l[n].Lines {
			if x.Ref != "" {
				to := owner(n, x.Ref)
				if to < 0 {
					return api.Image{}, api.Fault{Err: api.ErrNone, At: n}
				}
				if !slices.Contains(order, to) {
					order = append(order, to)
				}
				x.Ref = strings.Replace(x.Ref, ".", "l"+strconv.Itoa(n)+"_", 1)
			}
			x.Label = strings.Replace(x.Label, ".", "l"+strconv.Itoa(n)+"_", 1)
			all = append(all, x)
		}
	}
	out := api.Image{Units: order}
	out.Words, _ = asm.Assemble(all)
	for _, n := range order {
		for _, x := range l[n].Lines {
			if x.Label != "" && x.Label[0] != '.' {
				// Where it lies is how many words the lines ahead of it make, whatever they speak of.
				ahead := slices.Clone(all[:slices.Index(all, x)])
				for i := range ahead {
					ahead[i].Ref = ""
				}
				words, _ := asm.Assemble(ahead)
				out.Spots = append(out.Spots, api.Spot{Name: x.Label, At: len(words)})
			}
		}
	}
	return out, api.Fault{}
}

// Every three of some units, in every order, from every label on: whether they are put together or not must be as it is said plainly.
func TestAllThreesOfUnits(t *testing.T) {
	pool := units(t, "", "a:", "a:;jmp b", "a:;jmp c;jmp b;.x:", "halt;a:;.x:;jmp .x;ldi r1, b", "b:;halt", "b:;jmp c;ret", "ret;b:;jmp .x;.x:;jmp c", "b:;jmp a;jmp .x",
		"c:;jmp b", "c:;jmp a;jmp c", "c:;.x:;halt;call .x;call b", "c:;d:;ret", "a:;b:;jmp b;jmp c", "jmp a;d:", ".x:;ret;ret;d:;jmp .x;jmp a", "a:;c:;a:", ".x:;.x:", "d:;jmp d;jmp e")
	seen := map[api.Errno]int{}
	for i := range pool {
		for j := range pool {
			for k := range pool {
				l := []api.Unit{pool[i], pool[j], pool[k]}
				for _, entry := range []string{"a", "b", "c", "d"} {
					got, f := Link(l, entry)
					want, wantFault := plain(l, entry)
					if !same(got, want) || f != wantFault {
						t.Fatalf("Link(%+v, %q): %+v, %v comes, not %+v, %v", l, entry, got, f, want, wantFault)
					}
					seen[f.Err]++
				}
			}
		}
	}
	for _, err := range []api.Errno{api.OK, api.ErrName, api.ErrNone} {
		if seen[err] < 1000 {
			t.Errorf("%d comes only %d times", err, seen[err])
		}
	}
}

// Z2

func TestWhatIsHandedInIsOnlyRead(t *testing.T) {
	room := units(t, "a:;jmp .x;.x:;jmp b;c:", "b:;jmp c;ret", "a:;b:;jmp z", "d:")
	for i := range room {
		room[i].Lines = append(room[i].Lines, label("A"), label("B"))[:len(room[i].Lines)]
	}
	spare := func() []api.Line {
		var out []api.Line
		for _, u := range room {
			out = append(out, u.Lines[:len(u.Lines)+2]...)
		}
		return out
	}
	before := spare()
	links(t, room[:2], "a", api.Image{Words: []int{19456, 2, 19456, 4, 19456, 4, 27648}, Units: []int{0, 1}, Spots: []api.Spot{{Name: "a"}, {Name: "c", At: 4}, {Name: "b", At: 4}}})
	fails(t, room[:3], "a", api.ErrName, 2)
	fails(t, room[2:3], "a", api.ErrNone, 0)
	if !slices.Equal(spare(), before) {
		t.Errorf("%+v becomes %+v", before, spare())
	}
}

func TestAnswersAreTheCallersOwn(t *testing.T) {
	l := units(t, "a:;jmp b", "b:;jmp a")
	want := api.Image{Words: []int{19456, 2, 19456, 0}, Units: []int{0, 1}, Spots: []api.Spot{{Name: "a"}, {Name: "b", At: 2}}}
	first, _ := Link(l, "a")
	second, _ := Link(l, "a")
	clear(first.Words[:cap(first.Words)])
	clear(first.Units[:cap(first.Units)])
	clear(first.Spots[:cap(first.Spots)])
	clear(l[0].Lines[:cap(l[0].Lines)])
	clear(l)
	if !same(second, want) {
		t.Errorf("%+v comes, not %+v", second, want)
	}
}

// Whoever handed a name in may write over its bytes.
func TestNamesShareNoMemoryWithTheLines(t *testing.T) {
	room := []byte("name")
	got, f := Link([]api.Unit{{Lines: []api.Line{label(unsafe.String(&room[0], len(room)))}}}, "name")
	copy(room, "else")
	if f != (api.Fault{}) || len(got.Spots) != 1 || got.Spots[0].Name != "name" {
		t.Errorf("%+v, %v comes", got, f)
	}
}
