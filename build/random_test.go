package build

import (
	"testing"

	"pairlegal/api"
	"pairlegal/check"
	"pairlegal/emu"
	"pairlegal/eval"
	"pairlegal/fold"
	"pairlegal/source"
)

// ending is how a run ended, and with what.
type ending struct{ how, trap int }

// TestRandomPrograms: on the machine they do what chapter 11 says of them.
func TestRandomPrograms(t *testing.T) {
	ended := map[ending]int{}
	surely := 0
	for seed := range int64(3000) {
		m := made(seed)
		p, input := m.program(), m.input()
		if f := check.Check(p); f != (api.Fault{}) {
			t.Fatalf("%v of\n%s", f, shown(p))
		}
		if source.Nodes(p) > api.MaxBuild {
			refuses(t, p, api.Fault{Err: api.ErrMuch})
			ended[ending{}]++
			continue
		}
		image := built(t, p)
		// Most of those that are long have no end, and are not gone through as far as may be.
		most, ticks := api.MaxFuel, api.MaxTicks
		if told, _ := eval.Run(p, []byte(input), 5000); told.How == api.RanFuel && seed%20 != 0 {
			most, ticks = 50000, 5000
		}
		told, _ := eval.Run(p, []byte(input), ticks)
		r := ran(t, p, image, told, input, most)
		ended[ending{r.How, r.Trap}]++
		if promised(told) <= api.MaxFuel {
			surely++
		}
		for _, fuel := range []int{promised(told), r.Steps - 1, r.Steps / 2, m.Intn(1000)} {
			if fuel <= api.MaxFuel {
				ran(t, p, image, told, input, fuel)
			}
		}
	}
	t.Logf("%v, %d of which are promised", ended, surely)
	// That all of these come is what makes the test worth its while.
	for _, e := range []ending{{}, {api.RanHalt, 0}, {api.RanTrap, api.TrapZero}, {api.RanTrap, api.TrapPlace}, {api.RanTrap, api.TrapCalls}, {api.RanFuel, 0}} {
		if ended[e] < 40 {
			t.Errorf("%v comes %d times", e, ended[e])
		}
	}
	if surely < 1000 {
		t.Errorf("%d are promised", surely)
	}
}

// TestFoldedProgramsDoTheSame: what is worked out ahead changes nothing that is told.
func TestFoldedProgramsDoTheSame(t *testing.T) {
	for seed := range int64(1000) {
		m := made(seed)
		p, input := m.program(), m.input()
		told, _ := eval.Run(p, []byte(input), 5000)
		if told.How == api.RanFuel || source.Nodes(p) > api.MaxBuild {
			continue
		}
		folded, _ := fold.Program(p)
		r, err := emu.Run(built(t, folded).Words, api.State{}, []byte(input), api.MaxFuel)
		if err != api.OK || !keeps(told, r, api.MaxFuel) {
			t.Fatalf("%s comes of\n%s", brief(r.How, r.Trap, r.Read, r.Steps, r.Output), shown(folded))
		}
	}
}

func FuzzBuild(f *testing.F) {
	for _, text := range []string{"", "i16 x = 1 / 0;", "void main() { 1 / 0 && 3 % (u8)256; -32768; !0u; }", heavy(2, 3, 4), helpers + "void main() { x = 3; while (say(x)) { x = x - 1; if (x == 1) continue; a[x] = 5; } }", sum + "void main() { mix(get() * 5); tell(); }", chainOf(3)} {
		f.Add(text, "ab c")
	}
	f.Fuzz(func(t *testing.T, text, input string) {
		p, fault := source.Read(text)
		if fault.Err != api.OK || len(input) > api.MaxInput {
			return
		}
		if wrong := check.Check(p); wrong != (api.Fault{}) {
			refuses(t, p, wrong)
			return
		}
		if source.Nodes(p) > api.MaxBuild {
			refuses(t, p, api.Fault{Err: api.ErrMuch})
			return
		}
		does(t, p, input)
	})
}
