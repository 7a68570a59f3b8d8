package probe

import (
	"math"
	"slices"
	"testing"

	"pairlegal/api"
)

// P2: Until

// ends must come of a run with places.
func ends(t *testing.T, c trial, places []int, want api.Ran) {
	t.Helper()
	r, err := Until(c.code, c.s, []byte(c.input), c.fuel, places)
	if err != api.OK || !sameRan(r, want) {
		t.Errorf("%s, until %.100v: %v, %s comes, not %s", c.name, places, err, brief(r), brief(want))
	}
}

// TestUntilByHand: ahead of a step at a place, not behind it.
func TestUntilByHand(t *testing.T) {
	c := trial{"echo", echo(), api.State{Regs: [8]int{7}}, "xy", 100}
	x, y := [8]int{7, 0, 'x'}, [8]int{7, 0, 'y'}
	stop := func(told string, read, steps int, s api.State) api.Ran {
		return api.Ran{How: api.RanStop, Output: []byte(told), Read: read, Steps: steps, State: s}
	}
	ends(t, c, []int{1}, stop("", 1, 1, api.State{Regs: x, At: 1}))
	ends(t, c, []int{3}, stop("", 1, 2, api.State{Regs: x, At: 3}))
	ends(t, c, []int{4}, stop("x", 1, 3, api.State{Regs: x, At: 4}))
	ends(t, c, []int{0}, stop("x", 1, 4, api.State{Regs: x}))
	ends(t, c, []int{6}, stop("xy", 2, 10, api.State{Regs: [8]int{7}, Flags: api.Flags{C: true}, At: 6}))
	ends(t, c, []int{6, 4}, stop("x", 1, 3, api.State{Regs: x, At: 4}))
	ends(t, c, []int{4, 6, 4}, stop("x", 1, 3, api.State{Regs: x, At: 4}))
	ends(t, c, []int{6, 5, 2, 0, 4, 3}, stop("", 1, 2, api.State{Regs: x, At: 3}))

	c.s, c.input = api.State{Regs: x, At: 4}, "y"
	ends(t, c, []int{4}, stop("y", 1, 4, api.State{Regs: y, At: 4}))
	ends(t, c, []int{4, 3}, stop("", 1, 3, api.State{Regs: y, At: 3}))
}

// TestUntilNoSuchPlace: a place that no step comes to ends nothing; the second word of an instruction is none, and places don't go round.
func TestUntilNoSuchPlace(t *testing.T) {
	for _, c := range trials()[:16] {
		want := runs(t, c)
		for _, places := range [][]int{nil, {}, {math.MinInt}, {math.MaxInt}, {-65536, -65535, -65534, -65533, -65532, -1}, {65536, 65537, 65538, 65539, 65540, 65542, 65546}, {1 << 32, 1<<32 + 1, 1<<32 + 3, 1<<32 + 10}, {-1, 77, 65536, 40000}} {
			ends(t, c, places, want)
		}
	}
	c := trials()[0]
	ends(t, c, []int{2, 5, 7}, runs(t, c))
}

// TestUntilTheFirstStep: it is taken wherever it is; what ends there ends as it does.
func TestUntilTheFirstStep(t *testing.T) {
	for _, c := range trials() {
		var all []int
		for place := range api.MaxMem {
			all = append(all, place)
		}
		h := history(t, c)
		want := h[min(1, len(h)-1)]
		if len(h) > 1 && want.How == api.RanFuel {
			want.How = api.RanStop
		}
		ends(t, c, all, want)
		if c.fuel > 0 && c.s.At == 0 && len(h) == 2 {
			ends(t, c, []int{0}, h[1])
		}
	}
	loop := trial{"a loop", words(api.Instr{Op: api.OpJmp}), busy(), "", 9}
	ends(t, loop, []int{0}, stopped(history(t, loop), []int{0}))
	for _, i := range []api.Instr{{Op: api.OpHalt}, {Op: api.OpTrap, Imm: 3}} {
		c := trial{"ends at once", words(i), busy(), "", 9}
		ends(t, c, []int{0}, runs(t, c))
	}
	ends(t, trial{"no code", nil, at(5), "", 9}, []int{5, 0}, api.Ran{How: api.RanBad, Steps: 1, State: at(5)})
}

// TestUntilAheadOfFuel: a run that has taken all steps stops at a place, but not ahead of the first step.
func TestUntilAheadOfFuel(t *testing.T) {
	c := trial{"sum", sum(), api.State{}, "", 0}
	ends(t, c, []int{0}, api.Ran{How: api.RanFuel})
	for fuel, place := range []int{0, 2, 4, 10, 11, 6, 7} {
		c.fuel = fuel
		want := runs(t, c)
		if want.State.At != place {
			t.Fatalf("a step %d at %d", fuel, want.State.At)
		}
		ends(t, c, []int{12, 9}, want)
		if fuel > 0 {
			want.How = api.RanStop
			ends(t, c, []int{place}, want)
			c.fuel--
			ends(t, c, []int{place}, runs(t, c))
			c.fuel += 2
			ends(t, c, []int{place}, want)
		}
	}
	far := trial{"a long loop", words(api.Instr{Op: api.OpAdd, D: 1, S: 2}, api.Instr{Op: api.OpJnz}, api.Instr{}), api.State{Regs: [8]int{0, 0, 1}}, "", api.MaxFuel}
	ends(t, far, []int{3}, api.Ran{How: api.RanStop, Steps: 131072, State: api.State{Regs: [8]int{0, 0, 1}, Flags: api.Flags{C: true, Z: true}, At: 3}})
	far.fuel = 131072
	ends(t, far, []int{3}, api.Ran{How: api.RanStop, Steps: 131072, State: api.State{Regs: [8]int{0, 0, 1}, Flags: api.Flags{C: true, Z: true}, At: 3}})
	never := trial{"a loop without an end", words(api.Instr{Op: api.OpJmp}), api.State{}, "", api.MaxFuel}
	ends(t, never, []int{1, 2}, api.Ran{How: api.RanFuel, Steps: api.MaxFuel})
}

// TestUntilAheadOfTheEnd: ahead of a step that would end the run it stops, whatever stands there.
func TestUntilAheadOfTheEnd(t *testing.T) {
	mov := words(api.Instr{Op: api.OpMov, D: 1, S: 2})
	moved := busy()
	moved.Regs[1], moved.At, moved.Mem = moved.Regs[2], 1, moved.Mem[:6]
	for _, w := range [][]int{nil, {0}, words(api.Instr{Op: api.OpTrap}), {65535}, {-1}, {2048}} {
		c := trial{"ahead of its end", append(slices.Clone(mov), w...), busy(), "", 9}
		ends(t, c, []int{1}, api.Ran{How: api.RanStop, Steps: 1, State: moved})
		ends(t, c, []int{0, 2}, runs(t, c))
	}
	ends(t, trial{"round", round(), at(65534), "", 9}, []int{0}, api.Ran{How: api.RanStop, Steps: 1, State: api.State{Regs: [8]int{0, 2}}})
	far := trial{"far", words(api.Instr{Op: api.OpJmp, Imm: 65535}), api.State{}, "", 9}
	ends(t, far, []int{65535}, api.Ran{How: api.RanStop, Steps: 1, State: at(65535)})
}

// TestUntilTooMuch: the step that would tell too much ends the run, and a place ahead of it does so first.
func TestUntilTooMuch(t *testing.T) {
	c := trial{"too much", slices.Repeat(words(api.Instr{Op: api.OpOut, S: 1}), api.MaxTold), busy(), "", api.MaxFuel}
	want := runs(t, c)
	if want.How != api.RanMuch || want.Steps != api.MaxTold+1 || want.State.At != 0 {
		t.Fatalf("%s comes", brief(want))
	}
	ends(t, c, []int{-1, 65536}, want)
	want.How, want.Steps = api.RanStop, api.MaxTold
	ends(t, c, []int{0}, want)
	want.Output, want.Steps, want.State.At = want.Output[:65535], 65535, 65535
	ends(t, c, []int{0, 65535}, want)
}

// TestUntilIsRunCut: it is what a run has left that is cut there.
func TestUntilIsRunCut(t *testing.T) {
	for _, c := range trials() {
		h := history(t, c)
		for place := range 90 {
			for _, places := range [][]int{{place}, {place, place + 9}, {place + 30, 200, place, place + 2}} {
				ends(t, c, places, stopped(h, places))
			}
		}
		ends(t, c, []int{65535}, stopped(h, []int{65535}))
	}
}

// TestUntilGoesOn: from place to place a run comes to the same as at once, and comes there as often as Hits tells.
func TestUntilGoesOn(t *testing.T) {
	c := ready(t, "queens", "4 ", 400000)
	want := runs(t, c)
	if want.How != api.RanHalt || string(want.Output) != "2\n" {
		t.Fatalf("%s, %q comes of queens", brief(want), want.Output)
	}
	hits, err := Hits(c.code, c.s, []byte(c.input), c.fuel)
	if err != api.OK {
		t.Fatalf("%v comes", err)
	}
	tried := 0
	for place := 1; place < len(hits); place++ {
		if n := hits[place]; n < 3 || n > 30 {
			continue
		}
		tried++
		now, times := api.Ran{How: api.RanStop, State: c.s}, -1
		for now.How == api.RanStop {
			next, err := Until(c.code, now.State, []byte(c.input[now.Read:]), c.fuel-now.Steps, []int{place})
			if err != api.OK {
				t.Fatalf("%v comes", err)
			}
			next.Output, next.Read, next.Steps = slices.Concat(now.Output, next.Output), next.Read+now.Read, next.Steps+now.Steps
			now = next
			times++
		}
		if times != hits[place] || !sameRan(now, want) {
			t.Fatalf("it stops %d times at %d, not %d, and %s comes, not %s", times, place, hits[place], brief(now), brief(want))
		}
	}
	if tried < 10 {
		t.Errorf("only %d places were tried", tried)
	}
}

// TestUntilManyPlaces: as many places as there may be, whatever they are.
func TestUntilManyPlaces(t *testing.T) {
	many := slices.Repeat([]int{77, -5, 1 << 40, 65536}, 1<<20)
	c := trial{"sum", sum(), api.State{}, "", 100}
	ends(t, c, many, runs(t, c))
	many[len(many)-1] = 9
	want := runs(t, c)
	want.How, want.Steps = api.RanStop, want.Steps-1
	ends(t, c, many, want)
}

// TestUntilOutOfRange: what Run refuses is refused, whatever the places are.
func TestUntilOutOfRange(t *testing.T) {
	for _, w := range wrong() {
		for _, places := range [][]int{nil, {0}, {-1}, {65536, 0}, {w.s.At}} {
			r, err := Until(w.code, w.s, []byte(w.input), w.fuel, places)
			if err != w.err || !sameRan(r, api.Ran{}) {
				t.Errorf("%s, until %v: %v, %s comes, not %v", w.name, places, err, brief(r), w.err)
			}
		}
	}
}
