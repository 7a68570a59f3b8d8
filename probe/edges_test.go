package probe

import (
	"encoding/binary"
	"slices"
	"sync"
	"testing"

	"pairlegal/api"
	"pairlegal/emu"
)

// Z1 to Z5

// answer is all that the three calls tell of one run.
type answer struct {
	shots  []api.Shot
	traced api.Ran
	until  api.Ran
	hits   []int
	errs   [3]api.Errno
}

func asked(c trial, most int, places []int) (a answer) {
	a.shots, a.traced, a.errs[0] = Trace(c.code, c.s, []byte(c.input), c.fuel, most)
	a.until, a.errs[1] = Until(c.code, c.s, []byte(c.input), c.fuel, places)
	a.hits, a.errs[2] = Hits(c.code, c.s, []byte(c.input), c.fuel)
	return a
}

func (a answer) same(b answer) bool {
	return slices.Equal(a.shots, b.shots) && sameRan(a.traced, b.traced) && sameRan(a.until, b.until) && slices.Equal(a.hits, b.hits) && a.errs == b.errs
}

func (a answer) clone() answer {
	a.shots, a.hits, a.traced, a.until = slices.Clone(a.shots), slices.Clone(a.hits), cloneRan(a.traced), cloneRan(a.until)
	return a
}

func cloneRan(r api.Ran) api.Ran {
	r.Output, r.State.Mem = slices.Clone(r.Output), slices.Clone(r.State.Mem)
	return r
}

// spoil overwrites a list, with its spare room.
func spoil[T any](l []T, with T) {
	l = l[:cap(l)]
	for i := range l {
		l[i] = with
	}
}

func (a answer) spoil() {
	spoil(a.shots, api.Shot{At: -9})
	spoil(a.hits, -9)
	for _, r := range []api.Ran{a.traced, a.until} {
		spoil(r.Output, 'x')
		spoil(r.State.Mem, -9)
	}
}

// all are trials, those that are refused, too.
func all() []trial {
	out := trials()
	for _, w := range wrong() {
		out = append(out, w.trial)
	}
	return out
}

// TestAskedAgain: the same comes whenever it is asked, with other calls between, though what came ahead was overwritten.
func TestAskedAgain(t *testing.T) {
	var first []answer
	for i, c := range all() {
		a := asked(c, i, []int{i, 3})
		first = append(first, a.clone())
		a.spoil()
	}
	for i, c := range slices.Backward(all()) {
		a := asked(c, i, []int{i, 3})
		if !a.same(first[i]) {
			t.Errorf("%s: something else comes", c.name)
		}
		a.spoil()
	}
}

// roomy is a copy of a list with room behind it, full of what must not be looked at.
func roomy[T any](l []T, with T) []T {
	out := append(slices.Clone(l), with, with, with)
	return out[:len(l)]
}

// TestOnlyRead: what is handed in, and the room behind it, is not changed, not looked at, and not kept.
func TestOnlyRead(t *testing.T) {
	for i, c := range all() {
		places := []int{i, 70000, 3}
		want := asked(c, 50, places).clone()
		r := c
		r.code, r.s.Mem = roomy(c.code, 0), roomy(c.s.Mem, 5)
		input, roomyPlaces := roomy([]byte(c.input), 'r'), roomy(places, 4)
		var a answer
		a.shots, a.traced, a.errs[0] = Trace(r.code, r.s, input, r.fuel, 50)
		a.until, a.errs[1] = Until(r.code, r.s, input, r.fuel, roomyPlaces)
		a.hits, a.errs[2] = Hits(r.code, r.s, input, r.fuel)
		if !a.same(want) {
			t.Errorf("%s: something else comes where there is room behind what is handed in", c.name)
		}
		is := func(what string, ok bool) {
			t.Helper()
			if !ok {
				t.Errorf("%s: %s was changed", c.name, what)
			}
		}
		is("code", slices.Equal(r.code[:len(c.code)+3], append(slices.Clone(c.code), 0, 0, 0)))
		is("memory", slices.Equal(r.s.Mem[:len(c.s.Mem)+3], append(slices.Clone(c.s.Mem), 5, 5, 5)))
		is("input", string(input[:len(c.input)+3]) == c.input+"rrr")
		is("a list of places", slices.Equal(roomyPlaces[:len(places)+3], append(slices.Clone(places), 4, 4, 4)))
		spoil(r.code, -3)
		spoil(r.s.Mem, -3)
		spoil(input, 's')
		spoil(roomyPlaces, -3)
		if !a.same(want) {
			t.Errorf("%s: what was handed in is a part of what came", c.name)
		}
		a.spoil()
		is("what was handed in", !slices.ContainsFunc(slices.Concat(r.code, r.s.Mem, roomyPlaces), func(x int) bool { return x != -3 }))
		is("input", !slices.ContainsFunc(input, func(b byte) bool { return b != 's' }))
	}
}

// TestNoListIsShared: to overwrite one list of an answer leaves the others, and other answers, as they were.
func TestNoListIsShared(t *testing.T) {
	for _, c := range trials() {
		want, a, b := asked(c, 90, nil).clone(), asked(c, 90, nil), asked(c, 90, nil)
		a.spoil()
		if !b.same(want) {
			t.Errorf("%s: two answers share a list", c.name)
		}
		spoil(b.shots, api.Shot{})
		spoil(b.traced.Output, 'x')
		if !slices.Equal(b.traced.State.Mem, want.traced.State.Mem) || !sameRan(b.until, want.until) || !slices.Equal(b.hits, want.hits) {
			t.Errorf("%s: two lists of an answer share memory", c.name)
		}
	}
}

// TestNilAndEmpty: they are the same, wherever they are handed in.
func TestNilAndEmpty(t *testing.T) {
	for _, fuel := range []int{-1, 0, 1, 9} {
		a := asked(trial{"nil", nil, api.State{}, "", fuel}, 5, nil)
		b := asked(trial{"empty", []int{}, api.State{Mem: []int{}}, "", fuel}, 5, []int{})
		if !a.same(b) {
			t.Errorf("%v comes of nil, %v of empty", a, b)
		}
		shots, r, err := Trace(nil, api.State{}, nil, fuel, 5)
		until, errUntil := Until(nil, api.State{}, nil, fuel, nil)
		hits, errHits := Hits(nil, api.State{}, nil, fuel)
		if !a.same(answer{shots, r, until, hits, [3]api.Errno{err, errUntil, errHits}}) {
			t.Errorf("something else comes of no input at all")
		}
	}
}

// TestSideBySide: many ask at once, of the same lists, and each one gets the same.
func TestSideBySide(t *testing.T) {
	l := all()
	var want []answer
	for i, c := range l {
		want = append(want, asked(c, 40, []int{i, 3}))
	}
	var done sync.WaitGroup
	for k := range 8 {
		done.Add(1)
		go func() {
			defer done.Done()
			for i := range l {
				at := (i + 5*k) % len(l)
				if !asked(l[at], 40, []int{at, 3}).same(want[at]) {
					t.Errorf("%s: something else comes", l[at].name)
				}
			}
		}()
	}
	done.Wait()
}

// fuzzed is a run that comes of any bytes: two are a word, so that code is not always of words that are instructions.
func fuzzed(code, mem []byte, regs uint64, place, fuel int, input []byte) trial {
	c := trial{name: "fuzzed", code: pairs(code), input: string(input), fuel: fuel}
	c.s = api.State{At: place, Mem: pairs(mem), Flags: api.Flags{C: regs&1 > 0, Z: regs&2 > 0, N: regs&4 > 0, V: regs&8 > 0}}
	for i := range c.s.Regs {
		c.s.Regs[i] = int(regs >> (8 * i) & 65535)
	}
	return c
}

func pairs(b []byte) []int {
	var out []int
	for ; len(b) > 1; b = b[2:] {
		out = append(out, int(binary.BigEndian.Uint16(b)))
	}
	return out
}

func bytesOf(l []int) []byte {
	var out []byte
	for _, x := range l {
		out = binary.BigEndian.AppendUint16(out, uint16(x))
	}
	return out
}

// FuzzRuns: whatever runs, all that is told of it is what Run tells of its steps.
func FuzzRuns(f *testing.F) {
	for i, c := range trials() {
		if len(c.code) < 1000 {
			f.Add(bytesOf(c.code), bytesOf(c.s.Mem), uint64(i)<<20, c.s.At, c.fuel, []byte(c.input), i, bytesOf([]int{i, 2 * i}))
		}
	}
	f.Add([]byte{}, []byte{}, uint64(0), -1, 5, []byte{}, 5, []byte{})
	f.Add([]byte{}, []byte{}, uint64(0), 0, -1, []byte{}, -1, []byte{})
	f.Fuzz(func(t *testing.T, code, mem []byte, regs uint64, place, fuel int, input []byte, most int, spots []byte) {
		if fuel > 0 {
			fuel %= 300
		}
		c, places := fuzzed(code, mem, regs, place, fuel, input), pairs(spots)
		a := asked(c, most, places)
		_, err := emu.Run(c.code, c.s, input, fuel)
		want := answer{errs: [3]api.Errno{err, err, err}}
		outside := most < 0 || most > api.MaxShots
		if outside {
			want.errs[0] = api.ErrRange
		}
		if err == api.OK {
			h := history(t, c)
			want.until, want.hits = stopped(h, places), allHits(c, h)
			if !outside {
				shots := allShots(c, h)
				want.shots, want.traced = shots[:min(most, len(shots))], h[len(h)-1]
			}
		}
		if !a.same(want) {
			t.Fatalf("%v comes, not %v, of %v from %v", a, want, c.code, c.s)
		}
	})
}
