package rt

import (
	"strconv"
	"strings"
)

// Registers, as all routines use them. The number in hand lies in r2 and those behind it: held.
const (
	placeA = "r0"
	placeB = "r1" // until B is read; then
	one    = "r1" // in a loop that counts
	spare  = "r6" // for a word that is needed at once
	stack  = "r7"
)

// writer is a builder of the text of a routine, whose numbers are of so many words.
type writer struct {
	strings.Builder
	words int
}

func (w *writer) label(name string) { w.WriteString(name + ":\n") }

// do writes an instruction: its kind's word, and its fields.
func (w *writer) do(kind string, fields ...string) {
	w.WriteString("\t" + kind)
	if len(fields) > 0 {
		w.WriteString(" " + strings.Join(fields, ", "))
	}
	w.WriteByte('\n')
}

func digits(n int) string { return strconv.Itoa(n) }

// held is the register of the number in hand that has its word k.
func held(k int) string { return "r" + digits(2+k) }

// chained is first for the lowest word, and rest, which takes a carry in, for those above it.
func chained(k int, first, rest string) string {
	if k == 0 {
		return first
	}
	return rest
}

func (w *writer) bits() int { return 16 * w.words }

func (w *writer) clear() {
	for k := range w.words {
		w.do("ldi", held(k), "0")
	}
}

func (w *writer) load() {
	for k := range w.words {
		w.do("ld", held(k), placeA, digits(k))
	}
}

func (w *writer) store() {
	for k := range w.words {
		w.do("st", placeA, held(k), digits(k))
	}
}

// up moves the number in hand up by one bit; first says what comes in from below.
func (w *writer) up(first string) {
	for k := range w.words {
		w.do(chained(k, first, "rol"), held(k))
	}
}

// down moves the number in hand down by one bit; top says what comes in from above.
func (w *writer) down(top string) {
	for k := range w.words {
		w.do(chained(k, top, "ror"), held(w.words-1-k))
	}
}

// upAt moves the number in memory at place, some words behind it, up by one bit, which goes out into C.
func (w *writer) upAt(place string, behind int) {
	for k := range w.words {
		w.do("ld", spare, place, digits(behind+k))
		w.do(chained(k, "shl", "rol"), spare)
		w.do("st", place, spare, digits(behind+k))
	}
}

// with does something with the number in hand and that in memory at place, some words behind it, word by word.
func (w *writer) with(first, rest, place string, behind int) {
	for k := range w.words {
		w.do("ld", spare, place, digits(behind+k))
		w.do(chained(k, first, rest), held(k), spare)
	}
}

// negateAt makes the number in memory at place its opposite.
func (w *writer) negateAt(place string) {
	for k := range w.words {
		w.do("ldi", spare, "0")
		w.do("ld", held(0), place, digits(k))
		w.do(chained(k, "sub", "sbc"), spare, held(0))
		w.do("st", place, spare, digits(k))
	}
}

// unsignAt makes the number in memory at place its opposite, if it is below 0; past is a label for it.
func (w *writer) unsignAt(place, past string) {
	w.do("ld", spare, place, digits(w.words-1))
	w.do("or", spare, spare)
	w.do("jge", past)
	w.negateAt(place)
	w.label(past)
}

// trapZero ends the run, if B is 0.
func (w *writer) trapZero() {
	w.do("ldi", spare, "0")
	for k := range w.words {
		w.do("ld", held(0), placeB, digits(k))
		w.do("or", spare, held(0))
	}
	w.do("jnz", ".fine")
	w.do("trap", "1")
	w.label(".fine")
}

// pushB lays B onto the stack, the highest word first, so that it lies there as it lay.
func (w *writer) pushB() {
	for k := range w.words {
		w.do("ld", spare, placeB, digits(w.words-1-k))
		w.do("push", spare)
	}
}

// drop takes n words from the stack.
func (w *writer) drop(n int) {
	w.do("ldi", spare, digits(n))
	w.do("add", stack, spare)
}

// Where the stack has what a loop needs.
const (
	countAt = 0
	copyAt  = 1 // of B
)

// perBit begins a loop that is gone through once for each bit, with 0 in hand; what is in it may change its copy of B.
func (w *writer) perBit() {
	w.pushB()
	w.do("ldi", spare, digits(w.bits()))
	w.do("push", spare)
	w.do("ldi", one, "1")
	w.clear()
	w.label(".bit")
}

// bitDone ends that loop; .next leads to its end.
func (w *writer) bitDone() {
	w.label(".next")
	w.do("ld", spare, stack, digits(countAt))
	w.do("sub", spare, one)
	w.do("st", stack, spare, digits(countAt))
	w.do("jnz", ".bit")
	w.drop(copyAt + w.words)
}
