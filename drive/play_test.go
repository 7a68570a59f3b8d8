package drive

import (
	"math"
	"strings"
	"testing"

	"pairlegal/api"
	"pairlegal/emu"
)

// M2

// played is what came of a text of which something must come.
func played(t *testing.T, text, input string, fuel int) api.Ran {
	t.Helper()
	r, f := Play(text, []byte(input), fuel)
	if f != (api.Fault{}) || r.How == 0 {
		t.Fatalf("%s, %v comes of %.100q, fuel of %d, and %.300q", brief(r), f, input, fuel, text)
	}
	return r
}

// refusesToPlay: a fault comes, and nothing beside it.
func refusesToPlay(t *testing.T, text string, input []byte, fuel int, want api.Fault) {
	t.Helper()
	r, f := Play(text, input, fuel)
	if f != want || !sameRan(r, api.Ran{}) {
		t.Errorf("%s, %v comes, not %v, of %d bytes, fuel of %d, and %.300q", brief(r), f, want, len(input), fuel, text)
	}
}

// TestPlayOfFaults: Compile's fault comes ahead of what is wrong with the input and the fuel.
func TestPlayOfFaults(t *testing.T) {
	long := make([]byte, api.MaxInput+1)
	for _, b := range allBad() {
		refusesToPlay(t, b.text, nil, api.MaxFuel, b.want)
		refusesToPlay(t, b.text, []byte("ab"), 0, b.want)
		refusesToPlay(t, b.text, nil, -1, b.want)
		refusesToPlay(t, b.text, long, 100, b.want)
		refusesToPlay(t, b.text, long, api.MaxFuel+1, b.want)
	}
	// Nothing is worked out ahead here.
	for _, text := range shrinks() {
		refusesToPlay(t, text, nil, api.MaxFuel, fault(api.ErrMuch, 0))
	}
}

// TestInput: as many bytes as may come in, and one more, whether they are asked for or not.
func TestInput(t *testing.T) {
	most := many("0123456789abcdef", api.MaxInput/16)
	takes := "i16 n = 512; void main() { while (n) { " + many("get();", 128) + " n = n - 1; } put(get() == -1); }"
	if r := played(t, takes, most, api.MaxFuel); r.How != api.RanHalt || r.Read != api.MaxInput || string(r.Output) != "\x01" {
		t.Errorf("%s comes", brief(r))
	}
	if r := played(t, tellsA, most, api.MaxFuel); r.How != api.RanHalt || r.Read != 0 || string(r.Output) != "A" {
		t.Errorf("%s comes", brief(r))
	}
	for _, text := range []string{takes, tellsA, forever} {
		for _, fuel := range []int{0, 1, api.MaxFuel, -1, api.MaxFuel + 1} {
			refusesToPlay(t, text, []byte(most+"x"), fuel, fault(api.ErrMuch, 0))
			refusesToPlay(t, text, []byte(most+most), fuel, fault(api.ErrMuch, 0))
		}
	}
}

// TestNoInput: nil and no bytes are the same.
func TestNoInput(t *testing.T) {
	for _, text := range good() {
		a, f := Play(text, nil, 20000)
		b, g := Play(text, []byte{}, 20000)
		if f != (api.Fault{}) || g != f || !sameRan(a, b) {
			t.Errorf("%s, %v and %s, %v come of %.300q", brief(a), f, brief(b), g, text)
		}
	}
}

// TestFuel: from less than none to more than there may be.
func TestFuel(t *testing.T) {
	for _, c := range []struct{ text, input, output string }{
		{tellsA, "", "A"}, {cat, "a b\x00\xff", "a b\x00\xff"}, {wide, "", "0008634767031"}, {"void main() { }", "", ""},
	} {
		for _, fuel := range []int{-1, math.MinInt, api.MaxFuel + 1, math.MaxInt} {
			refusesToPlay(t, c.text, []byte(c.input), fuel, fault(api.ErrRange, 0))
		}
		whole := played(t, c.text, c.input, api.MaxFuel)
		if whole.How != api.RanHalt || string(whole.Output) != c.output || whole.Read != len(c.input) || whole.Steps < 1 || whole.Steps >= api.MaxFuel {
			t.Errorf("%s comes of %s", brief(whole), c.text)
		}
		for _, fuel := range []int{0, 1, 2, whole.Steps / 2, whole.Steps - 1} {
			r := played(t, c.text, c.input, fuel)
			if r.How != api.RanFuel || r.Trap != 0 || r.Steps != fuel || !strings.HasPrefix(c.output, string(r.Output)) || r.Read > len(c.input) {
				t.Errorf("%s comes with fuel of %d of %s", brief(r), fuel, c.text)
			}
		}
		for _, fuel := range []int{whole.Steps, whole.Steps + 1, api.MaxFuel - 1, api.MaxFuel} {
			if r := played(t, c.text, c.input, fuel); !sameRan(r, whole) {
				t.Errorf("%s comes with fuel of %d, not %s, of %s", brief(r), fuel, brief(whole), c.text)
			}
		}
	}
	if r := played(t, tellsA, "", 0); !sameRan(r, api.Ran{How: api.RanFuel}) {
		t.Errorf("%s comes without fuel, from the state in which all is 0: %v", brief(r), r.State)
	}
}

// TestHowItEnds: each way in which a run ends.
func TestHowItEnds(t *testing.T) {
	all := many("\x00", api.MaxTold)
	for _, c := range []struct {
		text, input string
		how, trap   int
		output      string
		read        int
	}{
		{tellsA, "", api.RanHalt, 0, "A", 0},
		{tellsA, "xyz", api.RanHalt, 0, "A", 0},
		{cat, "xyz", api.RanHalt, 0, "xyz", 3},
		{wide, "", api.RanHalt, 0, "0008634767031", 0},
		{places, "", api.RanHalt, 0, "\x23\x00\x2c", 0},
		{known, "", api.RanHalt, 0, "A\xff", 0},
		{"void main() { put(65); put(1 / (get() + 1)); put(66); }", "", api.RanTrap, api.TrapZero, "A", 0},
		{"void main() { put(65); put(get() % (get() + 1)); put(66); }", "x", api.RanTrap, api.TrapZero, "A", 1},
		{"u16 a[4]; void main() { put(65); a[get() - 44] = 1; put(66); }", "0", api.RanTrap, api.TrapPlace, "A", 1},
		{"u16 a[4]; void main() { put(a[4]); }", "0", api.RanTrap, api.TrapPlace, "", 0},
		{"void f() { put(66); f(); } void main() { put(65); f(); }", "", api.RanTrap, api.TrapCalls, "A" + many("B", api.MaxCalls-1), 0},
		{forever, "x", api.RanFuel, 0, "", 0},
		{"void main() { put(get()); for (;;) { } }", "xy", api.RanFuel, 0, "x", 1},
		{muchTold(""), "", api.RanHalt, 0, all, 0},
		{muchTold("put(65); put(66);"), "", api.RanMuch, 0, all, 0},
		{muchTold("put(get());"), "xy", api.RanMuch, 0, all, 1},
		{muchTold("1 / 0;"), "", api.RanTrap, api.TrapZero, all, 0},
	} {
		r := played(t, c.text, c.input, api.MaxFuel)
		if r.How != c.how || r.Trap != c.trap || string(r.Output) != c.output || r.Read != c.read {
			t.Errorf("%s comes, not %d, %d, %.100q, %d, of %.300s", brief(r), c.how, c.trap, c.output, c.read, c.text)
		}
		if (r.How == api.RanFuel) != (r.Steps == api.MaxFuel) {
			t.Errorf("%s comes of %.300s", brief(r), c.text)
		}
	}
}

// TestWhatRunMakes: all that Run tells of Compile's words, the state too.
func TestWhatRunMakes(t *testing.T) {
	for _, text := range good() {
		image := made(t, Compile, text)
		for _, input := range []string{"", "a", "a b\xff\x00", many("xyz", 1000)} {
			for _, fuel := range []int{-1, 0, 1, 7, 100, 5000, api.MaxFuel, api.MaxFuel + 1} {
				want, err := emu.Run(image.Words, api.State{}, []byte(input), fuel)
				if r, f := Play(text, []byte(input), fuel); f != fault(err, 0) || !sameRan(r, want) {
					t.Errorf("%s, %v\ncomes, not\n%s, %v\nof %.100q, fuel of %d, and %.300q", brief(r), f, brief(want), err, input, fuel, text)
				}
			}
		}
	}
}

// TestARemarkAhead: a text that becomes the same words does the same.
func TestARemarkAhead(t *testing.T) {
	for _, text := range []string{tellsA, cat, wide, places} {
		want := played(t, text, "ab", api.MaxFuel)
		if r := played(t, "\n// a remark\n\t "+text+" // behind", "ab", api.MaxFuel); !sameRan(r, want) {
			t.Errorf("%s comes, not %s, of %s", brief(r), brief(want), text)
		}
	}
}
