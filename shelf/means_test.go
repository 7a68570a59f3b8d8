package shelf

import (
	"bytes"
	"fmt"
	"math/rand"
	"slices"
	"strings"
	"testing"

	"pairlegal/api"
	"pairlegal/drive"
	"pairlegal/emu"
	"pairlegal/eval"
	"pairlegal/source"
)

// shelved is a program with all that it is tried by: its text, what that says, and its words.
type shelved struct {
	name, text string
	program    api.Program
	words      []int
}

func taken(t *testing.T, name string) shelved {
	t.Helper()
	s := shelved{name: name, text: textOf(t, name)}
	var fault api.Fault
	if s.program, fault = source.Read(s.text); fault != (api.Fault{}) {
		t.Fatalf("%s: %v comes of Read", name, fault)
	}
	image, fault := drive.Compile(s.text)
	if fault != (api.Fault{}) {
		t.Fatalf("%s: %v comes of Compile", name, fault)
	}
	s.words = image.Words
	return s
}

// brief is what came of a run, without the most of what was told, if that is much.
func brief(how, trap, read, ticks int, told string) string {
	return fmt.Sprintf("how %d, trap %d, read %d, ticks or steps %d, %d bytes %.200q", how, trap, read, ticks, len(told), told)
}

func briefAnswer(a answer) string { return brief(a.how, a.trap, a.read, 0, a.told) }

// ends tells whether a run ended as it must.
func (a answer) ends(how, trap, read int, told []byte) bool {
	return a.how == how && a.trap == trap && a.read == read && a.told == string(told)
}

// begins tells whether what was told is what must be told first.
func (a answer) begins(read int, told []byte) bool {
	return read <= a.read && strings.HasPrefix(a.told, string(told))
}

// means holds what a program means against what it must tell, and answers how many ticks that takes.
func (s shelved) means(t *testing.T, in string, must answer, way int) int {
	t.Helper()
	told, fault := eval.Run(s.program, []byte(in), api.MaxTicks)
	right := fault == (api.Fault{}) && told.Result == 0
	if way != near {
		right = right && told.How == api.RanFuel && told.Trap == 0 && told.Ticks == api.MaxTicks && must.begins(told.Read, told.Output)
	} else {
		right = right && must.ends(told.How, told.Trap, told.Read, told.Output)
	}
	if !right {
		t.Errorf("%s: %s, %d, %v\ncomes, not\n%s\nof %.300q", s.name, brief(told.How, told.Trap, told.Read, told.Ticks, string(told.Output)), told.Result, fault, briefAnswer(must), in)
	}
	return told.Ticks
}

// How many steps a run is let go on for, if it is to come to its end, and if nobody waits for that.
const (
	most = 200 * api.MaxFuel
	some = api.MaxFuel / 10
)

// runsOn lets words run, and goes on with them where their fuel has ended, up to so many steps.
func (s shelved) runsOn(t *testing.T, in string, steps int) api.Ran {
	t.Helper()
	whole := api.Ran{How: api.RanFuel}
	for whole.How == api.RanFuel && whole.Steps < steps {
		r, err := emu.Run(s.words, whole.State, []byte(in[whole.Read:]), min(api.MaxFuel, steps-whole.Steps))
		if err != api.OK {
			t.Fatalf("%s: %d comes of Run, of %.300q", s.name, err, in)
		}
		r.Output = append(whole.Output, r.Output...)
		r.Read += whole.Read
		r.Steps += whole.Steps
		whole = r
	}
	return whole
}

// does holds what a program's words do against what it must tell: they come to that end, and where the program comes to its own within MaxTicks they take no more steps than its ticks allow.
func (s shelved) does(t *testing.T, in string, must answer, ticks, way int) {
	t.Helper()
	steps := most
	if way == endless {
		steps = some
	}
	r := s.runsOn(t, in, steps)
	right := must.ends(r.How, r.Trap, r.Read, r.Output)
	if way == endless {
		right = r.How == api.RanFuel && r.Trap == 0 && must.begins(r.Read, r.Output)
	}
	if !right || way == near && r.Steps > api.Cost*(ticks+3) {
		t.Errorf("%s: %s\ncomes of its words, in %d ticks, not\n%s\nof %.300q", s.name, brief(r.How, r.Trap, r.Read, r.Steps, string(r.Output)), ticks, briefAnswer(must), in)
	}
}

// try does both.
func (s shelved) try(t *testing.T, in string, must answer, way int) {
	t.Helper()
	ticks := s.means(t, in, must, way)
	s.does(t, in, must, ticks, way)
}

// TestPrograms: what each program means, and what its words do, of all that comes in by hand or by rules.
func TestPrograms(t *testing.T) {
	for name, trial := range trials() {
		t.Run(name, func(t *testing.T) {
			t.Parallel()
			s := taken(t, name)
			tried := map[string]bool{}
			for _, in := range trial.inputs(rand.New(rand.NewSource(14))) {
				if !tried[in] {
					tried[in] = true
					s.try(t, in, trial.must(in), trial.howFar(in))
				}
				if t.Failed() {
					return
				}
			}
			if len(tried) < 500 {
				t.Errorf("just %d inputs are tried", len(tried))
			}
		})
	}
}

// long is a text of bytes of all kinds, with digits and blanks among them.
func long(length int) string {
	r := rand.New(rand.NewSource(int64(length)))
	return first(many(picked(r, rising()+many("0123456789 ", 20), 4093), length/4093+1), length)
}

// TestLongInputs: as many bytes as may come in. Programs that look at the first ones alone come to their end; all others run out of ticks, and their words come to their end all the same.
func TestLongInputs(t *testing.T) {
	for _, c := range []struct {
		name   string
		length int
		way    int
	}{
		{"reverse", api.MaxInput, near}, {"sort", api.MaxInput, near}, {"mirror", api.MaxInput, near},
		{"cat", api.MaxInput, far}, {"upper", api.MaxInput, far}, {"rot13", api.MaxInput, far}, {"count", api.MaxInput, far}, {"words", api.MaxInput, far}, {"digits", api.MaxInput, far}, {"luhn", api.MaxInput, far}, {"ones", api.MaxInput, far},
		{"hex", api.MaxTold / 2, far}, {"base64", api.MaxTold / 4 * 3, far}, {"crc", 30000, far}, {"sum", 30000, far}, {"adler", 20000, far},
	} {
		t.Run(c.name, func(t *testing.T) {
			t.Parallel()
			in := long(c.length)
			taken(t, c.name).try(t, in, trials()[c.name].must(in), c.way)
		})
	}
}

// TestLongInputsOfNumbers: noughts ahead of a number, as many as may come in, and digits without end.
func TestLongInputsOfNumbers(t *testing.T) {
	for _, name := range []string{"gcd", "root", "binary", "factorial", "queens"} {
		t.Run(name, func(t *testing.T) {
			t.Parallel()
			s, must := taken(t, name), trials()[name].must
			s.try(t, many("0", 5000)+"5 10", must(many("0", 5000)+"5 10"), near)
			s.try(t, many("0", 5000), must(many("0", 5000)), near)
			in := many("0", api.MaxInput-1) + "4"
			s.try(t, in, must(in), far)
		})
	}
}

// TestPlay: Play ends and tells what must come, or what fuel is there for; and Quick's words do so, too.
func TestPlay(t *testing.T) {
	for name, trial := range trials() {
		t.Run(name, func(t *testing.T) {
			t.Parallel()
			s := taken(t, name)
			quick, fault := drive.Quick(s.text)
			if fault != (api.Fault{}) {
				t.Fatalf("%v comes of Quick", fault)
			}
			ended, inputs := 0, trial.inputs(rand.New(rand.NewSource(15)))
			inputs = append([]string{"", "5 ", "12 18 5 ", "hello, world", "60 1"}, inputs[len(inputs)-25:]...)
			for _, in := range inputs {
				must := trial.must(in)
				r, fault := drive.Play(s.text, []byte(in), api.MaxFuel)
				if must.ends(r.How, r.Trap, r.Read, r.Output) {
					ended++
				} else if fault != (api.Fault{}) || r.How != api.RanFuel || r.Steps != api.MaxFuel || !must.begins(r.Read, r.Output) {
					t.Fatalf("%s, %v\ncomes, not\n%s\nof %.300q", brief(r.How, r.Trap, r.Read, r.Steps, string(r.Output)), fault, briefAnswer(must), in)
				}
				s.words = quick.Words
				s.does(t, in, must, api.MaxTicks, trial.howFar(in))
			}
			if ended < len(inputs)/2 {
				t.Errorf("just %d of %d end", ended, len(inputs))
			}
		})
	}
}

// TestCutAnywhere: with less fuel the same is told first, and no fuel is too much.
func TestCutAnywhere(t *testing.T) {
	for _, name := range Names() {
		s, must := taken(t, name), trials()[name].must("5 3 7 ")
		whole := s.runsOn(t, "5 3 7 ", most)
		for fuel := 0; fuel < whole.Steps; fuel += 1 + whole.Steps/40 {
			r, err := emu.Run(s.words, api.State{}, []byte("5 3 7 "), fuel)
			if err != api.OK || r.How != api.RanFuel || !must.begins(r.Read, r.Output) {
				t.Errorf("%s: %s comes with fuel of %d, not\n%s", name, brief(r.How, r.Trap, r.Read, r.Steps, string(r.Output)), fuel, briefAnswer(must))
			}
		}
		r, err := emu.Run(s.words, api.State{}, []byte("5 3 7 "), whole.Steps)
		if err != api.OK || r.How != whole.How || !bytes.Equal(r.Output, whole.Output) || !slices.Equal(r.State.Mem, whole.State.Mem) {
			t.Errorf("%s: %s comes with just enough fuel", name, brief(r.How, r.Trap, r.Read, r.Steps, string(r.Output)))
		}
	}
}
