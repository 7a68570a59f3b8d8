package emu

import (
	"slices"
	"testing"

	"pairlegal/api"
)

// P1 to P3 lean on who looks on at a run.

// looked is what somebody who looks on was asked and told.
type looked struct {
	asked  []int
	shots  []api.Shot
	stands []bool
}

// watch writes down all, and ends a run at the place end.
func (l *looked) watch(end int) Watch {
	return Watch{
		Stops: func(at int) bool {
			l.asked = append(l.asked, at)
			return at == end
		},
		Took: func(shot api.Shot, stands bool) {
			l.shots, l.stands = append(l.shots, shot), append(l.stands, stands)
		},
	}
}

// three are steps at 0, 2 and 3; behind them stands nothing.
func three() []int {
	return words(api.Instr{Op: api.OpLdi, D: 1, Imm: 5}, api.Instr{Op: api.OpMov, D: 2, S: 1}, api.Instr{Op: api.OpSub, D: 1, S: 2})
}

func TestWhoLooksOnIsAskedAndTold(t *testing.T) {
	shots := []api.Shot{
		{At: 0, Ins: api.Instr{Op: api.OpLdi, D: 1, Imm: 5}, Regs: [8]int{0, 5}},
		{At: 2, Ins: api.Instr{Op: api.OpMov, D: 2, S: 1}, Regs: [8]int{0, 5, 5}},
		{At: 3, Ins: api.Instr{Op: api.OpSub, D: 1, S: 2}, Regs: [8]int{0, 0, 5}, Flags: api.Flags{Z: true}},
		{At: 4, Regs: [8]int{0, 0, 5}, Flags: api.Flags{Z: true}},
	}
	for _, c := range []struct{ fuel, end, how, asked, took int }{
		{9, -1, api.RanBad, 3, 4}, {4, -1, api.RanBad, 3, 4}, {3, -1, api.RanFuel, 3, 3}, {1, -1, api.RanFuel, 1, 1}, {0, -1, api.RanFuel, 0, 0},
		{9, 0, api.RanBad, 3, 4}, {0, 0, api.RanFuel, 0, 0}, {9, 2, api.RanStop, 1, 1}, {1, 2, api.RanStop, 1, 1}, {9, 4, api.RanStop, 3, 3}, {3, 4, api.RanStop, 3, 3}, {2, 4, api.RanFuel, 2, 2},
	} {
		var l looked
		got, err := Watched(three(), api.State{}, nil, c.fuel, l.watch(c.end))
		want, _ := Run(three(), api.State{}, nil, c.took)
		want.How = c.how
		same(t, "a run that is looked at", got, want)
		if err != api.OK || !slices.Equal(l.asked, []int{2, 3, 4}[:c.asked]) || !slices.Equal(l.shots, shots[:c.took]) || !slices.Equal(l.stands, []bool{true, true, true, false}[:c.took]) {
			t.Errorf("%+v: %d and %+v come", c, err, l)
		}
	}
}

// A step that ends the run is told, too: it leaves At where it is.
func TestWhoLooksOnIsToldTheLastStep(t *testing.T) {
	for _, i := range []api.Instr{{Op: api.OpHalt}, {Op: api.OpTrap, Imm: 9}} {
		var l looked
		s := api.State{At: 3, Regs: [8]int{1, 2}, Flags: api.Flags{V: true}}
		Watched(laid(3, i), s, nil, 9, l.watch(3))
		if !slices.Equal(l.shots, []api.Shot{{At: 3, Ins: i, Regs: s.Regs, Flags: s.Flags}}) || !slices.Equal(l.stands, []bool{true}) || len(l.asked) > 0 {
			t.Errorf("%+v comes of %+v", l, i)
		}
	}
}

// Either function may be missing, and both.
func TestNobodyLooksOn(t *testing.T) {
	for seed := range 20 {
		code := mixed(seed, 60)
		want, _ := Run(code, api.State{}, []byte("in"), 200)
		var l looked
		both := l.watch(-1)
		for _, w := range []Watch{{}, {Stops: both.Stops}, {Took: both.Took}, both} {
			got, err := Watched(code, api.State{}, []byte("in"), 200, w)
			if err != api.OK {
				t.Fatalf("%d comes", err)
			}
			same(t, "looked at", got, want)
		}
	}
}

// Nobody is asked or told when something is wrong.
func TestNothingIsSeenOfWhatIsWrong(t *testing.T) {
	much := make([]int, api.MaxMem+1)
	for _, c := range []struct {
		code  []int
		s     api.State
		input []byte
		fuel  int
		want  api.Errno
	}{
		{much, api.State{At: -1}, nil, -1, api.ErrMuch}, {three(), api.State{At: -1}, make([]byte, api.MaxInput+1), -1, api.ErrMuch},
		{three(), api.State{Mem: much}, nil, -1, api.ErrMuch}, {three(), api.State{At: -1}, nil, 5, api.ErrRange},
		{three(), api.State{}, nil, -1, api.ErrRange}, {three(), api.State{}, nil, api.MaxFuel + 1, api.ErrRange},
	} {
		var l looked
		got, err := Watched(c.code, c.s, c.input, c.fuel, l.watch(2))
		if err != c.want || len(l.asked)+len(l.shots) > 0 {
			t.Errorf("%d and %+v come, not %d", err, l, c.want)
		}
		same(t, "wrong", got, api.Ran{})
	}
}
