package probe

import (
	"math"
	"slices"
	"testing"

	"pairlegal/api"
	"pairlegal/instr"
)

// P1: Trace

// traces must tell steps, and all that Run tells.
func traces(t *testing.T, c trial, most int, want []api.Shot) {
	t.Helper()
	ran := runs(t, c)
	shots, r, err := Trace(c.code, c.s, []byte(c.input), c.fuel, most)
	if err != api.OK || !slices.Equal(shots, want) {
		t.Errorf("%s, %d at most: %v and %d steps come, %.500v, not %d, %.500v", c.name, most, err, len(shots), shots, len(want), want)
	}
	if !sameRan(r, ran) {
		t.Errorf("%s, %d at most: %s comes, not %s", c.name, most, brief(r), brief(ran))
	}
}

// TestFirstStep: the first step of `ldi r1, 5` leaves 5 in register 1.
func TestFirstStep(t *testing.T) {
	ldi := api.Instr{Op: api.OpLdi, D: 1, Imm: 5}
	traces(t, trial{"ldi", words(ldi), api.State{}, "", 1}, 1, []api.Shot{{At: 0, Ins: ldi, Regs: [8]int{0, 5}}})
}

// TestTraceByHand: where, which instruction, and what is behind it.
func TestTraceByHand(t *testing.T) {
	in, jc, out, jmp := api.Instr{Op: api.OpIn, D: 2}, api.Instr{Op: api.OpJc, Imm: 6}, api.Instr{Op: api.OpOut, S: 2}, api.Instr{Op: api.OpJmp}
	x, c := [8]int{7, 0, 'x'}, api.Flags{C: true}
	want := []api.Shot{
		{At: 0, Ins: in, Regs: x}, {At: 1, Ins: jc, Regs: x}, {At: 3, Ins: out, Regs: x}, {At: 4, Ins: jmp, Regs: x},
		{At: 0, Ins: in, Regs: [8]int{7}, Flags: c}, {At: 1, Ins: jc, Regs: [8]int{7}, Flags: c}, {At: 6, Regs: [8]int{7}, Flags: c},
	}
	for most := range 9 {
		traces(t, trial{"echo", echo(), api.State{Regs: [8]int{7}}, "x", 100}, most, want[:min(most, 7)])
		traces(t, trial{"echo that is cut", echo(), api.State{Regs: [8]int{7}}, "x", 3}, most, want[:min(most, 3)])
	}
	called := api.State{Regs: [8]int{7: 1}, Flags: api.Flags{N: true}}
	traces(t, trial{"a call", words(api.Instr{Op: api.OpCall, Imm: 3}, api.Instr{}, api.Instr{Op: api.OpRet}), called, "", 9}, 9, []api.Shot{
		{At: 0, Ins: api.Instr{Op: api.OpCall, Imm: 3}, Flags: called.Flags}, {At: 3, Ins: api.Instr{Op: api.OpRet}, Regs: called.Regs, Flags: called.Flags}, {At: 2, Regs: called.Regs, Flags: called.Flags},
	})
}

// TestTraceOfAStepThatEnds: it is told, but where no instruction stands.
func TestTraceOfAStepThatEnds(t *testing.T) {
	s := busy()
	for _, i := range []api.Instr{{Op: api.OpHalt}, {Op: api.OpTrap}, {Op: api.OpTrap, Imm: 65535}} {
		traces(t, trial{"ends", words(i), s, "", 5}, 5, []api.Shot{{Ins: i, Regs: s.Regs, Flags: s.Flags}})
	}
	mov := api.Instr{Op: api.OpMov, D: 1, S: 2}
	moved := s.Regs
	moved[1] = moved[2]
	for _, w := range [][]int{nil, {2048}, {2048, -1}, {1}, {65535}, {-1}, {65536}, {math.MinInt}, {math.MaxInt}} {
		for most := 1; most < 4; most++ {
			traces(t, trial{"no instruction", append(words(mov), w...), s, "", 5}, most, []api.Shot{{Ins: mov, Regs: moved, Flags: s.Flags}})
		}
		traces(t, trial{"none at all", w, s, "", 5}, 5, nil)
	}
}

// TestTraceOfEachKind: fields that an instruction has not are 0, and the others are its own.
func TestTraceOfEachKind(t *testing.T) {
	for op := range 33 {
		d, s, imm, _ := instr.Uses(op)
		i := api.Instr{Op: op}
		if d {
			i.D = 3
		}
		if s {
			i.S = 5
		}
		if imm {
			i.Imm = 40000
		}
		c := trial{"each kind", words(i), busy(), "in", 1}
		ran := runs(t, c)
		traces(t, c, 5, []api.Shot{{Ins: i, Regs: ran.State.Regs, Flags: ran.State.Flags}})
	}
}

// TestTraceIsRunStepByStep: what is told of a step is what a run has left that ends there.
func TestTraceIsRunStepByStep(t *testing.T) {
	for _, c := range trials() {
		want := allShots(c, history(t, c))
		for _, most := range []int{0, 1, 2, 7, len(want) - 1, len(want), len(want) + 1, api.MaxShots} {
			if most >= 0 {
				traces(t, c, most, want[:min(most, len(want))])
			}
		}
	}
}

// TestTraceOfAProgram: many steps, and memory, too.
func TestTraceOfAProgram(t *testing.T) {
	c := ready(t, "queens", "5 ", 1000)
	want := allShots(c, history(t, c))
	c.fuel = api.MaxFuel
	traces(t, c, 1000, want)
	traces(t, c, 999, want[:999])
	if r := runs(t, c); string(r.Output) != "10\n" {
		t.Errorf("%q comes of queens", r.Output)
	}
}

// TestMostShots: no more than that are told, however long a run is.
func TestMostShots(t *testing.T) {
	c := trial{"a long run", words(api.Instr{Op: api.OpAdd, D: 1, S: 2}, api.Instr{Op: api.OpJmp}), api.State{Regs: [8]int{0, 0, 1}}, "", api.MaxFuel}
	var want []api.Shot
	for n := range api.MaxShots / 2 {
		s := [8]int{0, n + 1, 1}
		want = append(want, api.Shot{Ins: api.Instr{Op: api.OpAdd, D: 1, S: 2}, Regs: s}, api.Shot{At: 1, Ins: api.Instr{Op: api.OpJmp}, Regs: s})
	}
	for _, fuel := range []int{api.MaxShots - 1, api.MaxShots, api.MaxShots + 1, 40000} {
		c.fuel = fuel
		for _, most := range []int{0, 1, api.MaxShots - 1, api.MaxShots} {
			traces(t, c, most, want[:min(fuel, most)])
		}
	}
}

// TestTraceOutOfRange: how many is told ahead of all that Run refuses.
func TestTraceOutOfRange(t *testing.T) {
	refuses := func(c trial, most int, want api.Errno) {
		t.Helper()
		shots, r, err := Trace(c.code, c.s, []byte(c.input), c.fuel, most)
		if err != want || len(shots) > 0 || !sameRan(r, api.Ran{}) {
			t.Errorf("%s, %d at most: %v, %d steps and %s come, not %v", c.name, most, err, len(shots), brief(r), want)
		}
	}
	for _, most := range []int{math.MinInt, -api.MaxShots, -1, api.MaxShots + 1, 2 * api.MaxShots, 1 << 32, math.MaxInt} {
		for _, c := range trials()[:4] {
			refuses(c, most, api.ErrRange)
		}
		for _, w := range wrong() {
			refuses(w.trial, most, api.ErrRange)
		}
	}
	for _, most := range []int{0, 1, 50, api.MaxShots} {
		for _, w := range wrong() {
			refuses(w.trial, most, w.err)
		}
	}
}
