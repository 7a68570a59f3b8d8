package emu

import (
	"bytes"
	"reflect"
	"slices"
	"testing"

	"pairlegal/api"
	"pairlegal/instr"
)

const (
	lowest  = -1 << 63
	highest = 1<<63 - 1
)

var noWords = []int{lowest, -65536, -1, 65536, 65537, 1<<32 + 5, highest}

// words are those of instructions with which nothing is wrong.
func words(l ...api.Instr) []int {
	out, f := instr.Encode(l)
	if f != (api.Fault{}) {
		panic("a test's instruction is wrong")
	}
	return out
}

// laid is code whose words lie at at, with no words ahead of them.
func laid(at int, l ...api.Instr) []int {
	return append(slices.Repeat([]int{-1}, at), words(l...)...)
}

// same holds two results against each other; nil and empty are the same.
func same(t *testing.T, what string, got, want api.Ran) {
	t.Helper()
	mem, told := slices.Equal(got.State.Mem, want.State.Mem), bytes.Equal(got.Output, want.Output)
	if !mem || !told {
		t.Errorf("%s: memory of %d words, %d bytes told come, not of %d words, %d bytes, or others", what, len(got.State.Mem), len(got.Output), len(want.State.Mem), len(want.Output))
	}
	got.State.Mem, want.State.Mem, got.Output, want.Output = nil, nil, nil, nil
	if !reflect.DeepEqual(got, want) {
		t.Errorf("%s: %+v comes, not %+v", what, got, want)
	}
}

// comes runs code that must run.
func comes(t *testing.T, what string, code []int, s api.State, input string, fuel int, want api.Ran) {
	t.Helper()
	got, err := Run(code, s, []byte(input), fuel)
	if err != api.OK {
		t.Errorf("%s: %d comes", what, err)
	}
	same(t, what, got, want)
}

func fails(t *testing.T, what string, code []int, s api.State, input []byte, fuel int, want api.Errno) {
	t.Helper()
	got, err := Run(code, s, input, fuel)
	if err != want {
		t.Errorf("%s: %d comes, not %d", what, err, want)
	}
	same(t, what, got, api.Ran{})
}

// C1

func TestNothingIsWrong(t *testing.T) {
	full := make([]int, api.MaxMem)
	full[0], full[api.MaxMem-1] = 65535, 65535
	all := [8]int{65535, 65535, 65535, 65535, 65535, 65535, 65535, 65535}
	for _, s := range []api.State{
		{}, {Mem: []int{}}, {Mem: full}, {Mem: []int{0, 65535, 0}}, {At: 65535}, {Regs: all},
		{Regs: all, At: 65535, Mem: full, Flags: api.Flags{C: true, Z: true, N: true, V: true}},
	} {
		if err := Wrong(s); err != api.OK {
			t.Errorf("Wrong of a state: %d comes", err)
		}
		if _, err := Run(nil, s, nil, 1); err != api.OK {
			t.Errorf("Run of a state: %d comes", err)
		}
	}
}

func TestStatesThatAreWrong(t *testing.T) {
	wrong := func(what string, s api.State, want api.Errno) {
		t.Helper()
		if err := Wrong(s); err != want {
			t.Errorf("%s: Wrong: %d comes, not %d", what, err, want)
		}
		fails(t, what, words(api.Instr{Op: api.OpHalt}), s, nil, 5, want)
	}
	for _, x := range noWords {
		for r := range 8 {
			var s api.State
			s.Regs[r] = x
			wrong("a register", s, api.ErrRange)
		}
		wrong("At", api.State{At: x}, api.ErrRange)
		wrong("the first word", api.State{Mem: []int{x, 1}}, api.ErrRange)
		wrong("the last word", api.State{Mem: []int{1, 2, x}}, api.ErrRange)
		full := make([]int, api.MaxMem)
		full[api.MaxMem-1] = x
		wrong("the last word of all", api.State{Mem: full}, api.ErrRange)
	}
	wrong("too much", api.State{Mem: make([]int, api.MaxMem+1)}, api.ErrMuch)
	long := make([]int, api.MaxMem+1)
	long[0] = -1
	wrong("too much, ahead of all else", api.State{Mem: long, At: -1, Regs: [8]int{65536}}, api.ErrMuch)
}

func TestPlacesOfMemoryGoRound(t *testing.T) {
	for _, c := range []struct{ reg, imm, at int }{
		{0, 0, 0}, {0, 65535, 65535}, {65535, 0, 65535}, {65535, 1, 0}, {65535, 3, 2}, {1, 65535, 0}, {65535, 65535, 65534}, {40000, 40000, 14464}, {200, 100, 300},
	} {
		s := api.State{Regs: [8]int{0, c.reg, 777}}
		want := s
		want.Mem = make([]int, c.at+1)
		want.Mem[c.at] = 777
		want.At = 2
		comes(t, "OpSt", words(api.Instr{Op: api.OpSt, D: 1, S: 2, Imm: c.imm}), s, "", 1, api.Ran{How: api.RanFuel, Steps: 1, State: want})
		s.Mem = want.Mem
		want.Regs[3] = 777
		comes(t, "OpLd", words(api.Instr{Op: api.OpLd, D: 3, S: 1, Imm: c.imm}), s, "", 1, api.Ran{How: api.RanFuel, Steps: 1, State: want})
	}
}

func TestMemoryBeyondWhatIsHandedInIsZero(t *testing.T) {
	for _, at := range []int{3, 4, 1000, 65535} {
		s := api.State{Regs: [8]int{9}, Mem: []int{1, 2, 3}}
		want := s
		want.Regs[0] = 0
		want.At = 2
		comes(t, "OpLd", words(api.Instr{Op: api.OpLd, S: 1, Imm: at}), s, "", 1, api.Ran{How: api.RanFuel, Steps: 1, State: want})
	}
}

func TestPlacesOfTheCodeGoRound(t *testing.T) {
	code := make([]int, api.MaxMem)
	copy(code, words(api.Instr{Op: api.OpTrap, Imm: 5}))
	mov := words(api.Instr{Op: api.OpMov, D: 1, S: 2})[0]
	jump := words(api.Instr{Op: api.OpJmp, Imm: 9})
	s := api.State{At: 65535, Regs: [8]int{0, 1, 2}}

	code[65535] = mov
	want := api.Ran{How: api.RanTrap, Trap: 5, Steps: 2, State: api.State{Regs: [8]int{0, 2, 2}}}
	comes(t, "one word at the end", code, s, "", 9, want)

	copy(code[65534:], words(api.Instr{Op: api.OpLdi, D: 1, Imm: 2}))
	s.At = 65534
	comes(t, "two words at the end", code, s, "", 9, want)

	// Its words end too early: the first word of the code is not its second one.
	code[65535] = jump[0]
	s.At = 65535
	comes(t, "half an instruction at the end", code, s, "", 9, api.Ran{How: api.RanBad, Steps: 1, State: s})
}

// C2

func TestRunTellsTheFirstThatIsWrong(t *testing.T) {
	code, much := words(api.Instr{Op: api.OpHalt}), make([]int, api.MaxMem+1)
	bytesMuch := make([]byte, api.MaxInput+1)
	far := api.State{At: 65536}
	fails(t, "code", much, api.State{}, nil, 5, api.ErrMuch)
	fails(t, "input", code, api.State{}, bytesMuch, 5, api.ErrMuch)
	fails(t, "code ahead of state and fuel", much, far, nil, -1, api.ErrMuch)
	fails(t, "input ahead of state and fuel", code, far, bytesMuch, -1, api.ErrMuch)
	fails(t, "state ahead of fuel", code, api.State{Mem: much}, nil, -1, api.ErrMuch)
	fails(t, "state", code, far, nil, 5, api.ErrRange)
	for _, fuel := range []int{lowest, -2, -1, api.MaxFuel + 1, 1 << 32, highest} {
		fails(t, "fuel", code, api.State{}, nil, fuel, api.ErrRange)
	}
	full := make([]int, api.MaxMem)
	comes(t, "as much as may be", full, api.State{Mem: full}, string(make([]byte, api.MaxInput)), api.MaxFuel, api.Ran{How: api.RanHalt, Steps: 1})
}

// Words of the code that no step comes to may be anything.
func TestWordsThatAreNoInstruction(t *testing.T) {
	mov := api.Instr{Op: api.OpMov, D: 1, S: 2}
	s := api.State{Regs: [8]int{0, 1, 2}, Flags: api.Flags{C: true}, Mem: []int{4}}
	after := s
	after.Regs[1], after.At = 2, 1
	for _, w := range []int{lowest, -1, 1, 15, 16, 128, 1024 + 1, 33 * 1024, 65535, 65536, 1 << 32, highest, 2048, 19456} {
		code := append(words(mov), w)
		comes(t, "no instruction", code, s, "x", 9, api.Ran{How: api.RanBad, Steps: 2, State: after})
		comes(t, "not come to", code, s, "x", 1, api.Ran{How: api.RanFuel, Steps: 1, State: after})
	}
	comes(t, "beyond the code", words(mov), s, "x", 9, api.Ran{How: api.RanBad, Steps: 2, State: after})
	for _, at := range []int{0, 7, 65535} {
		s.At = at
		comes(t, "no code", nil, s, "x", 9, api.Ran{How: api.RanBad, Steps: 1, State: s})
		comes(t, "no code", []int{}, s, "x", 1, api.Ran{How: api.RanBad, Steps: 1, State: s})
	}
	s.At = 0
	for _, x := range noWords {
		comes(t, "a second word", []int{words(api.Instr{Op: api.OpLdi})[0], x}, s, "", 9, api.Ran{How: api.RanBad, Steps: 1, State: s})
		comes(t, "a word behind", []int{0, x}, s, "", 9, api.Ran{How: api.RanHalt, Steps: 1, State: s})
	}
}

func TestFuel(t *testing.T) {
	code := words(api.Instr{Op: api.OpLdi, D: 1, Imm: 5}, api.Instr{Op: api.OpMov, D: 2, S: 1}, api.Instr{Op: api.OpTrap, Imm: 8})
	states := []api.State{{}, {Regs: [8]int{0, 5}, At: 2}, {Regs: [8]int{0, 5, 5}, At: 3}}
	for fuel, s := range states {
		comes(t, "too little", code, api.State{}, "", fuel, api.Ran{How: api.RanFuel, Steps: fuel, State: s})
	}
	for _, fuel := range []int{3, 4, api.MaxFuel} {
		comes(t, "enough", code, api.State{}, "", fuel, api.Ran{How: api.RanTrap, Trap: 8, Steps: 3, State: states[2]})
	}
	comes(t, "none, at no instruction", nil, api.State{At: 4}, "", 0, api.Ran{How: api.RanFuel, State: api.State{At: 4}})
	comes(t, "none, at the end", words(api.Instr{}), api.State{}, "", 0, api.Ran{How: api.RanFuel})
	comes(t, "round and round", words(api.Instr{Op: api.OpJmp}), api.State{}, "", api.MaxFuel, api.Ran{How: api.RanFuel, Steps: api.MaxFuel})
}

// C4

func TestHowItEnds(t *testing.T) {
	s := api.State{Regs: [8]int{1, 2, 3, 4, 5, 6, 7, 8}, Flags: api.Flags{Z: true, V: true}, At: 3, Mem: []int{0, 9}}
	comes(t, "OpHalt", laid(3, api.Instr{Op: api.OpHalt}), s, "in", 9, api.Ran{How: api.RanHalt, Steps: 1, State: s})
	for _, imm := range []int{0, 1, 32768, 65535} {
		comes(t, "OpTrap", laid(3, api.Instr{Op: api.OpTrap, Imm: imm}), s, "in", 9, api.Ran{How: api.RanTrap, Trap: imm, Steps: 1, State: s})
	}
}

func TestMemoryIsToldUpToTheLastWordThatIsNotZero(t *testing.T) {
	halt := words(api.Instr{Op: api.OpHalt})
	last := make([]int, api.MaxMem)
	last[65535] = 1
	for _, c := range []struct{ mem, want []int }{
		{nil, nil}, {[]int{}, nil}, {[]int{0}, nil}, {make([]int, api.MaxMem), nil}, {[]int{5}, []int{5}}, {[]int{0, 0, 5, 0, 0}, []int{0, 0, 5}}, {[]int{0, 65535}, []int{0, 65535}}, {last, last},
	} {
		comes(t, "as it was", halt, api.State{Mem: c.mem}, "", 1, api.Ran{How: api.RanHalt, Steps: 1, State: api.State{Mem: c.want}})
		comes(t, "no step", halt, api.State{Mem: c.mem}, "", 0, api.Ran{How: api.RanFuel, State: api.State{Mem: c.want}})
	}
	wipe := words(api.Instr{Op: api.OpSt, D: 1, S: 2, Imm: 3})
	comes(t, "wiped", wipe, api.State{Mem: []int{0, 7, 0, 8}}, "", 1, api.Ran{How: api.RanFuel, Steps: 1, State: api.State{At: 2, Mem: []int{0, 7}}})
}

func TestALoopThatTellsWhatComesIn(t *testing.T) {
	code := words(api.Instr{Op: api.OpIn, D: 2}, api.Instr{Op: api.OpJc, Imm: 6}, api.Instr{Op: api.OpOut, S: 2}, api.Instr{Op: api.OpJmp}, api.Instr{Op: api.OpHalt})
	for _, input := range []string{"", "a", "\x00\xff\x80", "some more bytes"} {
		n := len(input)
		comes(t, "the loop", code, api.State{Regs: [8]int{0, 0, 5}}, input, 1000,
			api.Ran{How: api.RanHalt, Output: []byte(input), Read: n, Steps: 4*n + 3, State: api.State{Flags: api.Flags{C: true}, At: 6}})
	}
	comes(t, "cut", code, api.State{}, "xyz", 6, api.Ran{How: api.RanFuel, Output: []byte("x"), Read: 2, Steps: 6, State: api.State{Regs: [8]int{0, 0, 'y'}, At: 3}})
}

// The sum of 5, 4, 3, 2 and 1, by a routine that is called within a loop.
func TestALoopWithCalls(t *testing.T) {
	code := words(
		api.Instr{Op: api.OpLdi, D: 1, Imm: 5}, // 0
		api.Instr{Op: api.OpLdi, D: 2, Imm: 1}, // 2
		api.Instr{Op: api.OpCall, Imm: 10},     // 4
		api.Instr{Op: api.OpSub, D: 1, S: 2},   // 6
		api.Instr{Op: api.OpJnz, Imm: 4},       // 7
		api.Instr{Op: api.OpHalt},              // 9
		api.Instr{Op: api.OpAdd, D: 3, S: 1},   // 10
		api.Instr{Op: api.OpRet},               // 11
	)
	mem := make([]int, 65536)
	mem[65535] = 6
	comes(t, "the sum", code, api.State{}, "", 1000, api.Ran{How: api.RanHalt, Steps: 2 + 5*5 + 1, State: api.State{Regs: [8]int{0, 0, 1, 15}, Flags: api.Flags{Z: true}, At: 9, Mem: mem}})
}

func TestCallsWithinCalls(t *testing.T) {
	code := words(api.Instr{Op: api.OpCall, Imm: 3}, api.Instr{Op: api.OpHalt}, api.Instr{Op: api.OpCall, Imm: 6}, api.Instr{Op: api.OpRet}, api.Instr{Op: api.OpRet})
	s := api.State{Regs: [8]int{7: 10}}
	want := s
	want.At = 2
	want.Mem = []int{0, 0, 0, 0, 0, 0, 0, 0, 5, 2}
	comes(t, "calls", code, s, "", 100, api.Ran{How: api.RanHalt, Steps: 5, State: want})
}

// mixed are words of all kinds, one behind the other, from a rule that is the same each time.
func mixed(seed, n int) []int {
	var out []int
	for range n {
		seed = (seed*1103515245 + 12345) % (1 << 31)
		r := seed >> 8
		op := r % 33
		if op == api.OpHalt || op == api.OpTrap {
			op = api.OpIn
		}
		out = append(out, words(api.Instr{Op: op, D: r / 33 % 8, S: r / 264 % 8, Imm: r / 7 % (3 * n / 2)})...)
	}
	return out
}

// A run may be cut anywhere: what is left of it comes to the same.
func TestARunMayBeCutAnywhere(t *testing.T) {
	input := []byte("what comes in, byte by byte")
	for seed := range 40 {
		code := mixed(seed, 60)
		whole, _ := Run(code, api.State{}, input, 60)
		for cut := range 60 {
			first, _ := Run(code, api.State{}, input, cut)
			if first.How != api.RanFuel {
				same(t, "ended ahead of the cut", first, whole)
				continue
			}
			second, err := Run(code, first.State, input[first.Read:], 60-cut)
			if err != api.OK {
				t.Fatalf("what Run answers is no state: %d", err)
			}
			second.Output = append(first.Output, second.Output...)
			second.Read += first.Read
			second.Steps += first.Steps
			same(t, "cut", second, whole)
		}
	}
}

// Z2

func TestWhatIsHandedInIsOnlyRead(t *testing.T) {
	code := append(words(
		api.Instr{Op: api.OpIn, D: 2}, api.Instr{Op: api.OpSt, D: 1, S: 2}, api.Instr{Op: api.OpSt, D: 1, S: 2, Imm: 2}, api.Instr{Op: api.OpOut, S: 2}, api.Instr{Op: api.OpHalt},
	), 9, 9)
	mem, input := []int{1, 2, -5, -6}, []byte("xyz")
	codeWas, memWas := slices.Clone(code), slices.Clone(mem)
	s := api.State{Mem: mem[:2]}
	got, err := Run(code[:7], s, input[:1], 9)
	if err != api.OK || !slices.Equal(got.State.Mem, []int{'x', 2, 'x'}) || string(got.Output) != "x" {
		t.Errorf("%v, %d comes", got, err)
	}
	clear(got.State.Mem[:cap(got.State.Mem)])
	clear(got.Output[:cap(got.Output)])
	Wrong(s)
	if !slices.Equal(code, codeWas) || !slices.Equal(mem, memWas) || string(input) != "xyz" || !reflect.DeepEqual(s, api.State{Mem: mem[:2]}) {
		t.Errorf("what was handed in is changed: %v, %v, %q", code, mem, input)
	}
}

// There is room for the whole memory behind what is handed in.
func TestMuchSpareRoomIsOnlyRead(t *testing.T) {
	room := slices.Repeat([]int{-7}, api.MaxMem+2)
	room[0] = 1
	code := words(api.Instr{Op: api.OpSt, D: 1, S: 2, Imm: 5}, api.Instr{Op: api.OpSt, D: 1, S: 2}, api.Instr{Op: api.OpHalt})
	s := api.State{Regs: [8]int{0, 0, 9}, Mem: room[:1]}
	want := s
	want.At, want.Mem = 4, []int{9, 0, 0, 0, 0, 9}
	comes(t, "much spare room", code, s, "", 9, api.Ran{How: api.RanHalt, Steps: 3, State: want})
	if room[0] != 1 || slices.ContainsFunc(room[1:], func(x int) bool { return x != -7 }) {
		t.Errorf("what was handed in is changed, or the room behind it")
	}
}

func TestSpareRoomIsNotLookedAt(t *testing.T) {
	code := words(api.Instr{Op: api.OpIn, D: 1}, api.Instr{Op: api.OpIn, D: 2}, api.Instr{Op: api.OpLd, D: 3, Imm: 1}, api.Instr{Op: api.OpHalt})
	mem, input := []int{0, 7}, []byte("xy")
	want := api.State{Regs: [8]int{0, 'x'}, Flags: api.Flags{C: true}, At: 4}
	got, _ := Run(code[:4], api.State{Mem: mem[:1], Regs: [8]int{0, 0, 9, 9}}, input[:1], 9)
	same(t, "spare room", got, api.Ran{How: api.RanBad, Read: 1, Steps: 4, State: want})
}

func TestAnswersAreTheCallersOwn(t *testing.T) {
	code := words(api.Instr{Op: api.OpOut, S: 1}, api.Instr{Op: api.OpHalt})
	s := api.State{Regs: [8]int{0, 65}, Mem: []int{3, 4}}
	first, _ := Run(code, s, nil, 9)
	second, _ := Run(code, s, nil, 9)
	clear(first.State.Mem)
	clear(first.Output)
	s.Mem[0], code[0] = 8, 8
	same(t, "an answer", second, api.Ran{How: api.RanHalt, Output: []byte("A"), Steps: 2, State: api.State{Regs: [8]int{0, 65}, At: 1, Mem: []int{3, 4}}})
}
