package build

import (
	"bytes"
	"fmt"
	"testing"

	"pairlegal/api"
	"pairlegal/asm"
	"pairlegal/emu"
	"pairlegal/eval"
	"pairlegal/instr"
)

// wrongImage is what is wrong with an image by L1 and by chapter 17; nothing, if nothing is.
func wrongImage(i api.Image) string {
	if len(i.Words) == 0 || len(i.Words) > api.MaxMem {
		return fmt.Sprintf("%d words", len(i.Words))
	}
	if _, fault := instr.Decode(i.Words); fault != (api.Fault{}) {
		return fmt.Sprintf("%v of Decode", fault)
	}
	if len(i.Units) > api.MaxUnits || len(i.Spots) > api.MaxSpots {
		return fmt.Sprintf("%d units, %d spots", len(i.Units), len(i.Spots))
	}
	for _, n := range i.Units {
		if n < 0 || n > 65535 {
			return fmt.Sprintf("unit %d", n)
		}
	}
	for _, s := range i.Spots {
		if !asm.Named(s.Name) || s.At < 0 || s.At > api.MaxMem {
			return fmt.Sprintf("spot %v", s)
		}
	}
	return ""
}

// built is the image of a program of which there must be one.
func built(t *testing.T, p api.Program) api.Image {
	t.Helper()
	image, fault := Build(p)
	if fault != (api.Fault{}) {
		t.Fatalf("%v comes of\n%s", fault, shown(p))
	}
	if wrong := wrongImage(image); wrong != "" {
		t.Fatalf("%s come of\n%s", wrong, shown(p))
	}
	return image
}

// refuses: the fault that comes of a program, and nothing beside it.
func refuses(t *testing.T, p api.Program, want api.Fault) {
	t.Helper()
	image, fault := Build(p)
	if fault != want || image.Words != nil || image.Units != nil || image.Spots != nil {
		t.Errorf("%d words and %v come, not %v, of\n%.2000s", len(image.Words), fault, want, shown(p))
	}
}

// promised is the fuel with which a run must end as the program does.
func promised(told api.Told) int { return api.Cost * (told.Ticks + 3) }

func sameEnd(told api.Told, r api.Ran) bool {
	return r.How == told.How && r.Trap == told.Trap && r.Read == told.Read && bytes.Equal(r.Output, told.Output)
}

// keeps tells whether a run does what L2 says of a program that means that. Where that has not ended within MaxTicks the machine may come further than it.
func keeps(told api.Told, r api.Ran, fuel int) bool {
	switch {
	case r.How == api.RanBad:
		return false
	case told.How == api.RanFuel:
		n := min(len(told.Output), len(r.Output))
		return bytes.Equal(told.Output[:n], r.Output[:n])
	case sameEnd(told, r):
		return true
	case promised(told) <= fuel:
		return false
	}
	return r.How == api.RanFuel && r.Trap == 0 && r.Read <= told.Read && bytes.HasPrefix(told.Output, r.Output)
}

// brief is what came of a run, without its state, and without the most of what was told, if that is much.
func brief(how, trap, read, ticks int, output []byte) string {
	return fmt.Sprintf("how %d, trap %d, read %d, ticks or steps %d, %d bytes %.100q", how, trap, read, ticks, len(output), output)
}

// ran lets words run with some fuel, and holds that against what the program means.
func ran(t *testing.T, p api.Program, image api.Image, told api.Told, input string, fuel int) api.Ran {
	t.Helper()
	r, err := emu.Run(image.Words, api.State{}, []byte(input), fuel)
	if err != api.OK || !keeps(told, r, fuel) {
		t.Fatalf("%s, %d\ncomes, not\n%s\nof %.100q with fuel of %d, and\n%.3000s", brief(r.How, r.Trap, r.Read, r.Steps, r.Output), err, brief(told.How, told.Trap, told.Read, told.Ticks, told.Output), input, fuel, shown(p))
	}
	return r
}

// does holds what a program's words do against what it means, with fuel of many kinds. It answers the run with the most fuel, and whether it ends as the program does.
func does(t *testing.T, p api.Program, input string) (api.Ran, bool) {
	t.Helper()
	image := built(t, p)
	told, fault := eval.Run(p, []byte(input), api.MaxTicks)
	if fault != (api.Fault{}) {
		t.Fatalf("Run: %v of\n%s", fault, shown(p))
	}
	r := ran(t, p, image, told, input, api.MaxFuel)
	steps := r.Steps
	for _, fuel := range []int{0, 1, 2, steps / 3, steps / 2, steps - 2, steps - 1, steps, steps + 1, promised(told) - 1, promised(told)} {
		if fuel >= 0 && fuel <= api.MaxFuel {
			ran(t, p, image, told, input, fuel)
		}
	}
	same := sameEnd(told, r)
	if same && r.How != api.RanFuel && steps > promised(told) {
		t.Fatalf("%d steps are more than %d ticks allow, of\n%s", steps, told.Ticks, shown(p))
	}
	return r, same && r.How != api.RanFuel
}

// comesToEnd is for programs that must come to their end with MaxFuel, promised or not: else not much would be held against each other.
func comesToEnd(t *testing.T, p api.Program, input string) api.Ran {
	t.Helper()
	r, same := does(t, p, input)
	if !same {
		t.Fatalf("%s comes of %.100q and\n%s", brief(r.How, r.Trap, r.Read, r.Steps, r.Output), input, shown(p))
	}
	return r
}

// halts: what a text tells by hand, and how many bytes it takes in.
func halts(t *testing.T, text, input, output string, taken int) {
	t.Helper()
	r := comesToEnd(t, read(t, text), input)
	if r.How != api.RanHalt || string(r.Output) != output || r.Read != taken {
		t.Errorf("%s comes, not %q and %d, of %q and\n%s", brief(r.How, r.Trap, r.Read, r.Steps, r.Output), output, taken, input, text)
	}
}

// traps: so, of a text that ends with a trap.
func traps(t *testing.T, text, input, output string, taken, trap int) {
	t.Helper()
	r := comesToEnd(t, read(t, text), input)
	if r.How != api.RanTrap || r.Trap != trap || string(r.Output) != output || r.Read != taken {
		t.Errorf("%s comes, not %d, %q and %d, of %q and\n%s", brief(r.How, r.Trap, r.Read, r.Steps, r.Output), trap, output, taken, input, text)
	}
}
