package eval

import (
	"math/rand"
	"reflect"
	"testing"

	"pairlegal/api"
	"pairlegal/check"
	"pairlegal/fold"
)

// TestRandomProgramsAgree: at each limit up to 100, and at 1000.
func TestRandomProgramsAgree(t *testing.T) {
	ends := map[ending]int{}
	for seed := range int64(1500) {
		m := &maker{Rand: rand.New(rand.NewSource(seed))}
		p, input := m.program(), m.input()
		if f := check.Check(p); f != (api.Fault{}) {
			t.Fatalf("%v of\n%s", f, shown(p))
		}
		agrees(t, p, input, 1000, 100)
		ends[modelled(p, input, 1000).ending]++
		if t.Failed() {
			return
		}
	}
	t.Log(ends)
	// That all of these come is what makes the test worth its while.
	for _, e := range []ending{{api.RanHalt, 0}, {api.RanTrap, api.TrapZero}, {api.RanTrap, api.TrapPlace}, {api.RanTrap, api.TrapCalls}, {api.RanFuel, 0}} {
		if ends[e] < 20 {
			t.Errorf("%v comes %d times", e, ends[e])
		}
	}
}

// TestFoldedProgramsMeanTheSame: what is worked out ahead takes no more ticks, and changes nothing else.
func TestFoldedProgramsMeanTheSame(t *testing.T) {
	for seed := range int64(2000) {
		m := &maker{Rand: rand.New(rand.NewSource(seed))}
		p, input := m.program(), []byte(m.input())
		want, _ := Run(p, input, 3000)
		if want.How == api.RanFuel {
			continue
		}
		folded, _ := fold.Program(p)
		got, f := Run(folded, input, want.Ticks)
		took := got.Ticks
		got.Ticks = want.Ticks
		if f != (api.Fault{}) || took > want.Ticks || !reflect.DeepEqual(plain(got), plain(want)) {
			t.Fatalf("%+v in %d ticks, %v comes, not %+v, of\n%s", got, took, f, want, shown(folded))
		}
	}
}
