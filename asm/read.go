package asm

import (
	"strconv"
	"strings"

	"pairlegal/api"
	"pairlegal/instr"
)

// Read answers the lines of a text; a fault's At is the number of one of the text's lines, those that hold nothing counted.
func Read(text string) ([]api.Line, api.Fault) {
	if len(text) > api.MaxText {
		return nil, api.Fault{Err: api.ErrMuch}
	}
	if lineCount(text) > api.MaxLines {
		return nil, api.Fault{Err: api.ErrMany}
	}
	kinds := kindsByWord()
	var out []api.Line
	for at := 0; text != ""; at++ {
		var line string
		line, text, _ = strings.Cut(text, "\n")
		line = withoutRemark(line)
		if line == "" {
			continue
		}
		l, err := readLine(line, kinds)
		if err != api.OK {
			return nil, api.Fault{Err: err, At: at}
		}
		out = append(out, l)
	}
	return out, api.Fault{}
}

func lineCount(text string) int {
	n := strings.Count(text, "\n")
	if text != "" && !strings.HasSuffix(text, "\n") {
		n++
	}
	return n
}

func kindsByWord() map[string]int {
	out := make(map[string]int, len(kindWords))
	for op, word := range kindWords {
		out[word] = op
	}
	return out
}

func withoutRemark(line string) string {
	line, _, _ = strings.Cut(line, ";")
	return trimmed(line)
}

func trimmed(s string) string { return strings.Trim(s, " \t") }

// readLine is for a line that holds something, without blanks, tabs or a remark at its ends.
func readLine(line string, kinds map[string]int) (api.Line, api.Errno) {
	if name, isLabel := strings.CutSuffix(line, ":"); isLabel {
		if !Named(name) {
			return api.Line{}, api.ErrName
		}
		return api.Line{Label: kept(name)}, api.OK
	}
	word, rest, _ := strings.Cut(line, " ")
	op, there := kinds[word]
	if !there {
		return api.Line{}, api.ErrKind
	}
	return readInstr(op, rest)
}

// readInstr reads the fields of a kind, which stand in rest.
func readInstr(op int, rest string) (api.Line, api.Errno) {
	l := api.Line{Ins: api.Instr{Op: op}}
	// A comma promises a field behind it, even an empty one; without a comma only a rest that is empty has none.
	more := rest != ""
	for _, read := range fieldReaders(&l) {
		if !more {
			return api.Line{}, api.ErrMany
		}
		var field string
		field, rest, more = strings.Cut(rest, ",")
		if !read(trimmed(field)) {
			return api.Line{}, api.ErrForm
		}
	}
	if more {
		return api.Line{}, api.ErrMany
	}
	return l, api.OK
}

// fieldReader puts what a text says into the line that the reader was made for, and tells whether the text is such a field.
type fieldReader func(text string) bool

// fieldReaders answers a reader for each field that the line's kind has, in the order in which they are written.
func fieldReaders(l *api.Line) []fieldReader {
	d, s, imm, _ := instr.Uses(l.Ins.Op)
	var out []fieldReader
	if d {
		out = append(out, registerReader(func(r int) { l.Ins.D = r }))
	}
	if s {
		out = append(out, registerReader(func(r int) { l.Ins.S = r }))
	}
	if imm {
		out = append(out, immReader(l))
	}
	return out
}

func registerReader(set func(r int)) fieldReader {
	return func(text string) bool {
		digits, ok := strings.CutPrefix(text, "r")
		if !ok {
			return false
		}
		r, ok := number(digits, maxRegister)
		if ok {
			set(r)
		}
		return ok
	}
}

func immReader(l *api.Line) fieldReader {
	return func(text string) bool {
		if n, ok := number(text, maxWord); ok {
			l.Ins.Imm = n
			return true
		}
		if !mayRefer(l.Ins.Op) || !Named(text) {
			return false
		}
		l.Ref = kept(text)
		return true
	}
}

// kept is a copy: a piece of the text would share its memory, and hold on to all of it.
func kept(s string) string { return strings.Clone(s) }

// number takes digits alone: a sign or a needless nought would not be written again.
func number(text string, most int) (int, bool) {
	n, err := strconv.Atoi(text)
	if err != nil || n < 0 || n > most || strconv.Itoa(n) != text {
		return 0, false
	}
	return n, true
}
