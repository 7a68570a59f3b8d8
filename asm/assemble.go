package asm

import (
	"pairlegal/api"
	"pairlegal/instr"
)

// Assemble answers the words of lines; a fault's At is the number of a line.
func Assemble(l []api.Line) ([]int, api.Fault) {
	if len(l) > api.MaxLines {
		return nil, api.Fault{Err: api.ErrMany}
	}
	places, fault := labelPlaces(l)
	if fault.Err != api.OK {
		return nil, fault
	}
	list, fault := resolved(l, places)
	if fault.Err != api.OK {
		return nil, fault
	}
	// Each line has been looked at: nothing can be wrong any more.
	words, _ := instr.Encode(list)
	return words, api.Fault{}
}

// labelPlaces answers how many words lie ahead of each label: labels may be spoken of ahead of where they stand, so that all must be known first.
func labelPlaces(l []api.Line) (map[string]int, api.Fault) {
	places := map[string]int{}
	words := 0
	for at, x := range l {
		if err := Wrong(x); err != api.OK {
			return nil, api.Fault{Err: err, At: at}
		}
		if x.Label != "" {
			if _, taken := places[x.Label]; taken {
				return nil, api.Fault{Err: api.ErrName, At: at}
			}
			places[x.Label] = words
			continue
		}
		long, _ := instr.Long(x.Ins.Op)
		words += long
		if words > api.MaxMem {
			return nil, api.Fault{Err: api.ErrMuch, At: at}
		}
	}
	return places, api.Fault{}
}

// resolved answers the instructions of the lines, with places instead of labels.
func resolved(l []api.Line, places map[string]int) ([]api.Instr, api.Fault) {
	var out []api.Instr
	for at, x := range l {
		if x.Label != "" {
			continue
		}
		if x.Ref != "" {
			place, there := places[x.Ref]
			if !there {
				return nil, api.Fault{Err: api.ErrNone, At: at}
			}
			x.Ins.Imm = place % (maxWord + 1)
		}
		out = append(out, x.Ins)
	}
	return out, api.Fault{}
}
