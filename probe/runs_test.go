package probe

import (
	"bytes"
	"fmt"
	"slices"
	"testing"

	"pairlegal/api"
	"pairlegal/drive"
	"pairlegal/emu"
	"pairlegal/instr"
	"pairlegal/shelf"
)

// words are those of instructions with which nothing is wrong.
func words(l ...api.Instr) []int {
	out, f := instr.Encode(l)
	if f != (api.Fault{}) {
		panic("a test's instruction is wrong")
	}
	return out
}

// trial is a run to look at.
type trial struct {
	name  string
	code  []int
	s     api.State
	input string
	fuel  int
}

// echo tells what comes in: steps at 0, 1, 3 and 4, and at 6 when nothing is left.
func echo() []int {
	return words(api.Instr{Op: api.OpIn, D: 2}, api.Instr{Op: api.OpJc, Imm: 6}, api.Instr{Op: api.OpOut, S: 2}, api.Instr{Op: api.OpJmp}, api.Instr{Op: api.OpHalt})
}

// sum is that of 5, 4, 3, 2 and 1, by a routine at 10.
func sum() []int {
	return words(
		api.Instr{Op: api.OpLdi, D: 1, Imm: 5}, // 0
		api.Instr{Op: api.OpLdi, D: 2, Imm: 1}, // 2
		api.Instr{Op: api.OpCall, Imm: 10},     // 4
		api.Instr{Op: api.OpSub, D: 1, S: 2},   // 6
		api.Instr{Op: api.OpJnz, Imm: 4},       // 7
		api.Instr{Op: api.OpHalt},              // 9
		api.Instr{Op: api.OpAdd, D: 3, S: 1},   // 10
		api.Instr{Op: api.OpRet},               // 11
	)
}

// shouts tells without an end.
func shouts() []int { return words(api.Instr{Op: api.OpOut, S: 1}, api.Instr{Op: api.OpJmp}) }

// round begins at the end of a code that is as long as may be, and goes on at 0.
func round() []int {
	out := make([]int, api.MaxMem)
	copy(out[65534:], words(api.Instr{Op: api.OpLdi, D: 1, Imm: 2}))
	copy(out, words(api.Instr{Op: api.OpMov, D: 2, S: 1}, api.Instr{Op: api.OpTrap, Imm: 5}))
	return out
}

func busy() api.State {
	return api.State{Regs: [8]int{1, 22, 333, 4444, 55555, 6, 77, 8}, Flags: api.Flags{Z: true, V: true}, Mem: []int{9, 8, 7, 0, 0, 5, 0}}
}

func at(place int) api.State { return api.State{At: place} }

// mixed are words of all kinds, one behind the other, from a rule that is the same each time.
func mixed(seed, n int) []int {
	var out []int
	for range n {
		seed = (seed*1103515245 + 12345) % (1 << 31)
		r := seed >> 8
		op := r % 33
		if op == api.OpHalt || op == api.OpTrap {
			op = api.OpIn
		}
		out = append(out, words(api.Instr{Op: op, D: r / 33 % 8, S: r / 264 % 8, Imm: r / 7 % (3 * n / 2)})...)
	}
	return out
}

// trials end in each way, and at each kind of place.
func trials() []trial {
	out := []trial{
		{"echo", echo(), api.State{}, "xyz", 100}, {"echo of nothing", echo(), busy(), "", 100}, {"echo that is cut", echo(), busy(), "xyz", 7}, {"echo from its middle", echo(), at(3), "x", 100},
		{"sum", sum(), api.State{}, "", 100}, {"sum with a stack", sum(), busy(), "", 100}, {"shouts", shouts(), busy(), "", 90},
		{"round", round(), at(65534), "", 9}, {"no code", nil, api.State{}, "", 9}, {"beyond", sum(), at(12), "", 9}, {"far beyond", sum(), at(65535), "", 9},
		{"no step", sum(), busy(), "", 0}, {"one step", sum(), busy(), "", 1}, {"halts", words(api.Instr{}), busy(), "", 1}, {"traps", words(api.Instr{Op: api.OpTrap, Imm: 7}), busy(), "", 5},
		{"half an instruction", append(sum(), 2048), at(12), "", 9}, {"no word", []int{32, -1}, busy(), "", 9}, {"out of its end", sum()[:4], busy(), "", 9},
	}
	for seed := range 20 {
		out = append(out, trial{fmt.Sprint("mixed ", seed), mixed(seed, 50), busy(), "some bytes", 150})
	}
	return out
}

// history is what Run tells of a run after no step, after one, and so on: each step is a run of its own, from what the one ahead has left.
func history(t *testing.T, c trial) []api.Ran {
	t.Helper()
	now, err := emu.Run(c.code, c.s, []byte(c.input), 0)
	out := []api.Ran{now}
	for now.How == api.RanFuel && now.Steps < c.fuel {
		var next api.Ran
		next, err = emu.Run(c.code, now.State, []byte(c.input[now.Read:]), 1)
		next.Output = append(slices.Clone(now.Output), next.Output...)
		next.Read += now.Read
		next.Steps += now.Steps
		now = next
		out = append(out, now)
	}
	if err != api.OK {
		t.Fatalf("%s: %v comes of Run", c.name, err)
	}
	return out
}

// allShots are those that come of a history.
func allShots(c trial, h []api.Ran) []api.Shot {
	var out []api.Shot
	for n := 1; n < len(h) && h[n].How != api.RanBad; n++ {
		ins, _ := instr.One(c.code, h[n-1].State.At)
		out = append(out, api.Shot{At: h[n-1].State.At, Ins: ins, Regs: h[n].State.Regs, Flags: h[n].State.Flags})
	}
	return out
}

// stopped is what comes of a history that ends at one of places.
func stopped(h []api.Ran, places []int) api.Ran {
	for n := 1; n < len(h); n++ {
		if h[n].How == api.RanFuel && slices.Contains(places, h[n].State.At) {
			out := h[n]
			out.How = api.RanStop
			return out
		}
	}
	return h[len(h)-1]
}

// allHits are those that come of a history.
func allHits(c trial, h []api.Ran) []int {
	out := make([]int, len(c.code))
	for n := 1; n < len(h); n++ {
		if from := h[n-1].State.At; from < len(out) {
			out[from]++
		}
	}
	return out
}

func sameRan(a, b api.Ran) bool {
	if !slices.Equal(a.State.Mem, b.State.Mem) || !bytes.Equal(a.Output, b.Output) || a.State.Regs != b.State.Regs || a.State.Flags != b.State.Flags || a.State.At != b.State.At {
		return false
	}
	return a.How == b.How && a.Trap == b.Trap && a.Read == b.Read && a.Steps == b.Steps
}

// brief tells what came of a run without its memory, which may be long.
func brief(r api.Ran) string {
	return fmt.Sprintf("how %d, trap %d, %d told, %d read, %d steps, registers %v, flags %v, at %d, %d in memory", r.How, r.Trap, len(r.Output), r.Read, r.Steps, r.State.Regs, r.State.Flags, r.State.At, len(r.State.Mem))
}

func runs(t *testing.T, c trial) api.Ran {
	t.Helper()
	r, err := emu.Run(c.code, c.s, []byte(c.input), c.fuel)
	if err != api.OK {
		t.Fatalf("%s: %v comes of Run", c.name, err)
	}
	return r
}

// refused is a trial that Run refuses.
type refused struct {
	trial
	err api.Errno
}

// wrong are those that Run refuses; of some several things are wrong.
func wrong() []refused {
	much := make([]int, api.MaxMem+1)
	bytesMuch := string(make([]byte, api.MaxInput+1))
	return []refused{
		{trial{"much code", much, at(-1), bytesMuch, -1}, api.ErrMuch},
		{trial{"far too much code", make([]int, 3*api.MaxMem), api.State{}, "", 5}, api.ErrMuch},
		{trial{"much input", sum(), at(65536), bytesMuch, -1}, api.ErrMuch},
		{trial{"much memory", sum(), api.State{Mem: much, At: -1}, "", -1}, api.ErrMuch},
		{trial{"a place below 0", sum(), at(-1), "", 5}, api.ErrRange},
		{trial{"a place beyond all", sum(), at(65536), "", 5}, api.ErrRange},
		{trial{"a register", sum(), api.State{Regs: [8]int{7: 65536}}, "", 5}, api.ErrRange},
		{trial{"a word of memory", sum(), api.State{Mem: []int{0, -1}}, "", 5}, api.ErrRange},
		{trial{"fuel below 0", sum(), api.State{}, "", -1}, api.ErrRange},
		{trial{"too much fuel", sum(), api.State{}, "", api.MaxFuel + 1}, api.ErrRange},
		{trial{"too much fuel, and no code", nil, api.State{}, "", api.MaxFuel + 1}, api.ErrRange},
	}
}

// ready is a program of the shelf, as words.
func ready(t *testing.T, name, input string, fuel int) trial {
	t.Helper()
	text, err := shelf.Text(name)
	if err != api.OK {
		t.Fatalf("%s: %v comes", name, err)
	}
	image, f := drive.Compile(text)
	if f != (api.Fault{}) {
		t.Fatalf("%s: %v comes", name, f)
	}
	return trial{name, image.Words, api.State{}, input, fuel}
}
