package probe

import (
	"slices"
	"testing"

	"pairlegal/api"
)

// P3: Hits

// counts must come of a run.
func counts(t *testing.T, c trial, want []int) {
	t.Helper()
	hits, err := Hits(c.code, c.s, []byte(c.input), c.fuel)
	if err != api.OK || !slices.Equal(hits, want) {
		t.Errorf("%s: %v, %.300v comes, not %.300v", c.name, err, hits, want)
	}
}

// TestHitsByHand: a step is taken where its instruction begins.
func TestHitsByHand(t *testing.T) {
	c := trial{"echo", echo(), busy(), "xy", 100}
	counts(t, c, []int{3, 3, 0, 2, 2, 0, 1})
	c.fuel = 4
	counts(t, c, []int{1, 1, 0, 1, 1, 0, 0})
	c.fuel = 5
	counts(t, c, []int{2, 1, 0, 1, 1, 0, 0})
	c.fuel = 0
	counts(t, c, make([]int, 7))
	c.fuel, c.s = 1, at(4)
	counts(t, c, []int{0, 0, 0, 0, 1, 0, 0})
	counts(t, trial{"sum", sum(), api.State{}, "", 100}, []int{1, 0, 1, 0, 5, 0, 5, 5, 0, 1, 5, 5})
	// A jump leads to what was a second word: 9344 is `and r1, r0`.
	counts(t, trial{"a second word", words(api.Instr{Op: api.OpLdi, D: 1, Imm: 9344}, api.Instr{Op: api.OpJmp, Imm: 1}), api.State{}, "", 6}, []int{1, 2, 3, 0})
}

// TestHitsOfAStepThatEnds: it counts, at what is no instruction, too; beyond the code there is no word.
func TestHitsOfAStepThatEnds(t *testing.T) {
	for _, w := range []int{0, 1, 2048, 32768, 65535, 65536, -1} {
		counts(t, trial{"ends", []int{w}, busy(), "", 9}, []int{1})
		counts(t, trial{"ends behind another one", append(words(api.Instr{Op: api.OpMov}), w), busy(), "", 9}, []int{1, 1})
		counts(t, trial{"not come to", append(words(api.Instr{Op: api.OpMov}), w), busy(), "", 1}, []int{1, 0})
	}
	counts(t, trial{"a trap", words(api.Instr{Op: api.OpTrap, Imm: 3}), busy(), "", 9}, []int{1, 0})
	counts(t, trial{"beyond", words(api.Instr{Op: api.OpMov}), busy(), "", 9}, []int{1})
	counts(t, trial{"far beyond", sum(), at(65535), "", 9}, make([]int, 12))
	counts(t, trial{"just beyond", sum(), at(12), "", 9}, make([]int, 12))
	counts(t, trial{"at the last word", append(sum(), 0), at(12), "", 9}, append(make([]int, 12), 1))
	for _, place := range []int{0, 1, 65535} {
		counts(t, trial{"no code", nil, at(place), "", 9}, nil)
		counts(t, trial{"no code", []int{}, at(place), "", 0}, nil)
	}
}

// TestHitsOfLongRuns: as many steps as there may be, and as many words.
func TestHitsOfLongRuns(t *testing.T) {
	counts(t, trial{"a loop", words(api.Instr{Op: api.OpJmp}), busy(), "", api.MaxFuel}, []int{api.MaxFuel, 0})
	want := make([]int, api.MaxMem)
	want[65534], want[0], want[1] = 1, 1, 1
	counts(t, trial{"round", round(), at(65534), "", 9}, want)
	straight := slices.Repeat(words(api.Instr{Op: api.OpMov, D: 1, S: 2}), api.MaxMem)
	counts(t, trial{"round and round", straight, at(5), "", 3*api.MaxMem + 2}, slices.Concat([]int{3, 3, 3, 3, 3, 4, 4}, slices.Repeat([]int{3}, api.MaxMem-7)))
}

// TestHitsOfTooMuch: the step that would tell too much counts.
func TestHitsOfTooMuch(t *testing.T) {
	code := words(api.Instr{Op: api.OpOut, S: 1}, api.Instr{Op: api.OpOut, S: 2}, api.Instr{Op: api.OpJmp})
	counts(t, trial{"too much", code, busy(), "", api.MaxFuel}, []int{api.MaxTold/2 + 1, api.MaxTold / 2, api.MaxTold / 2, 0})
	counts(t, trial{"just not too much", code, busy(), "", api.MaxTold / 2 * 3}, []int{api.MaxTold / 2, api.MaxTold / 2, api.MaxTold / 2, 0})
}

// TestHitsIsRunStepByStep: so often is a run there that is cut behind each step.
func TestHitsIsRunStepByStep(t *testing.T) {
	for _, c := range trials() {
		counts(t, c, allHits(c, history(t, c)))
	}
}

// TestHitsOfPrograms: in all they are as many as the steps.
func TestHitsOfPrograms(t *testing.T) {
	for _, name := range []string{"queens", "ackermann", "adler"} {
		c := ready(t, name, "2 2 ", 300000)
		hits, err := Hits(c.code, c.s, []byte(c.input), c.fuel)
		all := 0
		for _, n := range hits {
			all += n
		}
		if r := runs(t, c); err != api.OK || len(hits) != len(c.code) || all != r.Steps {
			t.Errorf("%s: %v, %d in all of %d words come, not %d of %d", name, err, all, len(hits), r.Steps, len(c.code))
		}
	}
	c := ready(t, "queens", "5 ", 1000)
	counts(t, c, allHits(c, history(t, c)))
}

// TestHitsOutOfRange: what Run refuses is refused.
func TestHitsOutOfRange(t *testing.T) {
	for _, w := range wrong() {
		hits, err := Hits(w.code, w.s, []byte(w.input), w.fuel)
		if err != w.err || len(hits) > 0 {
			t.Errorf("%s: %v, %d words come, not %v", w.name, err, len(hits), w.err)
		}
	}
}
