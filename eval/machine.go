package eval

import (
	"pairlegal/api"
	"pairlegal/check"
	"pairlegal/types"
)

// noByte is what get tells when no byte is left: -1 of its type.
const noByte = 65535

// machine is what came of a run so far, and what the program has at hand there.
type machine struct {
	api.Told
	frame
	globals [][]uint64
	input   []byte
	limit   int
}

// frame is what belongs to one call alone.
type frame struct {
	locals []uint64
	answer uint64 // what the call tells; 0, unless an SReturn says otherwise
	depth  int    // how many calls are open, this one too
}

func started(globals []api.Global, input []byte, limit int) *machine {
	m := &machine{input: input, limit: limit}
	for _, g := range globals {
		m.globals = append(m.globals, atFirst(g))
	}
	return m
}

// atFirst answers the numbers that a variable of all has at first; one that is no array has just one.
func atFirst(g api.Global) []uint64 {
	out := make([]uint64, max(1, g.Size))
	for i, x := range g.Init {
		n, t, _ := check.Const(x)
		out[i] = types.Convert(n, t, g.Type)
	}
	return out
}

// tick takes one more tick; it answers false, if the run ends because there is none left.
func (m *machine) tick() bool {
	if m.Ticks == m.limit {
		m.How = api.RanFuel
		return false
	}
	m.Ticks++
	return true
}

// trap ends the run; it answers what an expression does at which a run ends.
func (m *machine) trap(n int) (uint64, bool) {
	m.How, m.Trap = api.RanTrap, n
	return 0, false
}

// put is what the function of that name does.
func (m *machine) put(numbers []uint64) (uint64, bool) {
	if len(m.Output) == api.MaxTold {
		m.How = api.RanMuch
		return 0, false
	}
	m.Output = append(m.Output, byte(numbers[0]))
	return 0, true
}

// get is what the function of that name does.
func (m *machine) get([]uint64) (uint64, bool) {
	if m.Read == len(m.input) {
		return noByte, true
	}
	m.Read++
	return uint64(m.input[m.Read-1]), true
}

// call goes through a function's statements in a frame of their own, whose first locals are the parameters.
func (m *machine) call(body step, locals int, numbers []uint64) (uint64, bool) {
	if m.depth == api.MaxCalls {
		return m.trap(api.TrapCalls)
	}
	defer m.leave(m.frame)
	m.frame = frame{locals: make([]uint64, locals), depth: m.depth + 1}
	copy(m.locals, numbers)
	if body(m) == ended {
		return 0, false
	}
	return m.answer, true
}

// leave goes back to the frame of whoever called.
func (m *machine) leave(back frame) { m.frame = back }
