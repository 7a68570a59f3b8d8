package asm

import (
	"pairlegal/api"
	"pairlegal/instr"
)

// Assemble answers the words of lines; a fault's At is the number of a line.
func Assemble(l []api.Line) ([]int, api.Fault) {
	places, _, fault := Places(l)
	if fault.Err != api.OK {
		return nil, fault
	}
	list, fault := Resolve(l, func(label string) (int, bool) {
		place, there := places[label]
		return place, there
	})
	if fault.Err != api.OK {
		return nil, fault
	}
	// Each line has been looked at: nothing can be wrong any more.
	words, _ := instr.Encode(list)
	return words, api.Fault{}
}

// Places answers how many words lie ahead of each label, and how many there are in all: labels may be spoken of ahead of where they stand, so that all must be known first. It doesn't ask whether a Ref is one of them: other lines may have it.
func Places(l []api.Line) (map[string]int, int, api.Fault) {
	if len(l) > api.MaxLines {
		return nil, 0, api.Fault{Err: api.ErrMany}
	}
	places := map[string]int{}
	words := 0
	for at, x := range l {
		if err := Wrong(x); err != api.OK {
			return nil, 0, api.Fault{Err: err, At: at}
		}
		if x.Label != "" {
			if _, taken := places[x.Label]; taken {
				return nil, 0, api.Fault{Err: api.ErrName, At: at}
			}
			places[x.Label] = words
			continue
		}
		long, _ := instr.Long(x.Ins.Op)
		words += long
		if words > api.MaxMem {
			return nil, 0, api.Fault{Err: api.ErrMuch, At: at}
		}
	}
	return places, words, api.Fault{}
}

// Resolve answers the instructions of lines with which nothing is wrong, with places instead of labels: find tells where a label lies, and is asked line by line.
func Resolve(l []api.Line, find func(label string) (int, bool)) ([]api.Instr, api.Fault) {
	var out []api.Instr
	for at, x := range l {
		if x.Label != "" {
			continue
		}
		if x.Ref != "" {
			place, there := find(x.Ref)
			if !there {
				return nil, api.Fault{Err: api.ErrNone, At: at}
			}
			x.Ins.Imm = place % (maxWord + 1)
		}
		out = append(out, x.Ins)
	}
	return out, api.Fault{}
}
