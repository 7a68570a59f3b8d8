package build

import (
	"strconv"

	"pairlegal/api"
)

// Registers. A number in hand lies in those from 0 on, its lowest word first.
const (
	spare = 4 // for a word that is needed at once
	calls = 6 // how many calls are open
	stack = 7
)

// writer has the lines of a unit that is written.
type writer struct {
	lines   []api.Line
	labels  int // how many it has made
	depth   int // how many words the stack has, at the place that is written, on top of the way back
	deepest int
}

// do writes an instruction; fields that its kind has not are 0.
func (w *writer) do(op, d, s, imm int) {
	w.lines = append(w.lines, api.Line{Ins: api.Instr{Op: op, D: d, S: s, Imm: imm}})
}

// both writes an instruction of two registers.
func (w *writer) both(op, d, s int) { w.do(op, d, s, 0) }

// set makes a register a number.
func (w *writer) set(d, n int) { w.do(api.OpLdi, d, 0, n) }

// load makes a register the word that lies some words behind where base says.
func (w *writer) load(d, base, behind int) { w.do(api.OpLd, d, base, behind) }

// store is the other way round.
func (w *writer) store(base, behind, s int) { w.do(api.OpSt, base, s, behind) }

// to writes a jump or a call to a label.
func (w *writer) to(op int, label string) {
	w.lines = append(w.lines, api.Line{Ins: api.Instr{Op: op}, Ref: label})
}

func (w *writer) label(name string) { w.lines = append(w.lines, api.Line{Label: name}) }

// newLabel answers a label that is the unit's alone, and nowhere yet.
func (w *writer) newLabel() string {
	w.labels++
	return ".l" + strconv.Itoa(w.labels)
}

func (w *writer) push(s int) {
	w.do(api.OpPush, 0, s, 0)
	w.depth++
	w.deepest = max(w.deepest, w.depth)
}

func (w *writer) pop(d int) {
	w.do(api.OpPop, d, 0, 0)
	w.depth--
}

// drop takes n words off the stack.
func (w *writer) drop(n int) {
	w.free(n)
	w.depth -= n
}

// free does so ahead of a jump: what stands behind that has these words yet.
func (w *writer) free(n int) {
	if n > 0 {
		w.set(spare, n)
		w.both(api.OpAdd, stack, spare)
	}
}
