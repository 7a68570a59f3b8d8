package batch

import (
	"fmt"
	"math"
	"slices"
	"strings"
	"testing"

	"pairlegal/api"
)

// trial is a job, and by hand what must come of it: its fault, or how its run ends, what it tells, and how many bytes it takes in.
type trial struct {
	job       api.Job
	fault     api.Fault
	how, trap int
	output    string
	read      int
}

// many is a text that stands there often.
func many(text string, n int) string { return strings.Repeat(text, n) }

const (
	tellsA  = "i16 main() { put(65); return 7; }"
	cat     = "i16 main() { i16 c = get(); while (c >= 0) { put(c); c = get(); } return 0; }"
	forever = "void main() { put(get()); for (;;) { } }"
	product = "u64 f(u64 n) { if (n < 2u) { return 1u; } return n * f(n - 1u); } void main() { u64 r = f(15u); while (r != 0u) { put(r % 10u + 48u); r = r / 10u; } }"
	// as many bytes as may be told, and one more
	tellsMuch = "i16 n = 512; void main() { while (n) { PUTS n = n - 1; } put(65); }"
)

func job(text, input string, fuel int) api.Job {
	return api.Job{Text: text, Input: []byte(input), Fuel: fuel}
}

// runs are jobs that are done.
func runs() []trial {
	much := strings.Replace(tellsMuch, "PUTS", many("put(0);", 128), 1)
	most := many("abcdefgh", api.MaxInput/8)
	ended := func(text, input, output string, read int) trial {
		return trial{job: job(text, input, api.MaxFuel), how: api.RanHalt, output: output, read: read}
	}
	trapped := func(trap int, text, input, output string, read int) trial {
		return trial{job: job(text, input, api.MaxFuel), how: api.RanTrap, trap: trap, output: output, read: read}
	}
	return []trial{
		ended(tellsA, "", "A", 0),
		ended(tellsA, "xyz", "A", 0),
		ended(cat, "a b\x00\xff", "a b\x00\xff", 5),
		ended(cat, "", "", 0),
		ended(product, "", "0008634767031", 0),
		ended("// a remark\nvoid main() { } // behind", "", "", 0),
		ended("void main() { put(get() == 97); put(1 + 1); }", most, "\x01\x02", 1),
		trapped(api.TrapZero, "void main() { put(65); put(1 / (get() + 1)); put(66); }", "", "A", 0),
		trapped(api.TrapPlace, "u16 a[4]; void main() { put(65); a[get() - 44] = 1; put(66); }", "0", "A", 1),
		trapped(api.TrapCalls, "void f() { put(66); f(); } void main() { put(65); f(); }", "", "A"+many("B", api.MaxCalls-1), 0),
		{job: job(forever, "xy", api.MaxFuel), how: api.RanFuel, output: "x", read: 1},
		{job: job(forever, "xy", 1000), how: api.RanFuel, output: "x", read: 1},
		{job: job(forever, "xy", 0), how: api.RanFuel},
		{job: job(tellsA, "", 0), how: api.RanFuel},
		{job: job(much, "", api.MaxFuel), how: api.RanMuch, output: many("\x00", api.MaxTold)},
	}
}

// faults are jobs of which nothing comes; what is wrong with the text is told ahead of what is wrong with the input, and that ahead of the fuel.
func faults() []trial {
	fault := func(err api.Errno, at int, j api.Job) trial { return trial{job: j, fault: api.Fault{Err: err, At: at}} }
	long := many("x", api.MaxInput+1)
	return []trial{
		fault(api.ErrForm, 0, job("x", "", 100)),
		fault(api.ErrForm, 14, job("void main() { ", "", 100)),
		fault(api.ErrForm, 0, job("x", long, -1)),
		fault(api.ErrNone, 0, job("", "", 100)),
		fault(api.ErrNone, 0, api.Job{}),
		fault(api.ErrNone, 0, api.Job{Fuel: -1}),
		fault(api.ErrNone, 2, job("i16 x; void f() { }", "a", api.MaxFuel)),
		fault(api.ErrName, 1, job("i16 x; void main() { y; }", "", 100)),
		fault(api.ErrFit, 1, job("void f() { } void main() { break; }", "", 100)),
		fault(api.ErrMuch, 0, job("void main() { "+many(";", api.MaxBuild)+" }", "", 100)),
		fault(api.ErrMuch, 0, job("void main() { while (0) { "+many(";", api.MaxBuild)+" } }", "", 100)),
		fault(api.ErrMuch, 0, job(tellsA, long, 100)),
		fault(api.ErrMuch, 0, job(tellsA, long, -1)),
		fault(api.ErrMuch, 0, job(tellsA, long, api.MaxFuel+1)),
		fault(api.ErrRange, 0, job(tellsA, "", -1)),
		fault(api.ErrRange, 0, job(tellsA, "", api.MaxFuel+1)),
		fault(api.ErrRange, 0, job(tellsA, "", math.MinInt)),
		fault(api.ErrRange, 0, job(tellsA, "", math.MaxInt)),
	}
}

func trials() []trial { return append(runs(), faults()...) }

// jobsOf are the jobs of trials.
func jobsOf(l []trial) (out []api.Job) {
	for _, c := range l {
		out = append(out, c.job)
	}
	return out
}

// brief is what came of a job, without its state, and without the most of what was told, if that is much.
func brief(d api.Done) string {
	r := d.Ran
	return fmt.Sprintf("%v, how %d, trap %d, read %d, steps %d, %d bytes %.100q", d.Fault, r.How, r.Trap, r.Read, r.Steps, len(r.Output), r.Output)
}

// same holds what came against what must come; nil and a list without entries are the same.
func same(a, b api.Done) bool {
	r, q := a.Ran, b.Ran
	return a.Fault == b.Fault && r.How == q.How && r.Trap == q.Trap && r.Read == q.Read && r.Steps == q.Steps && slices.Equal(r.Output, q.Output) &&
		r.State.Regs == q.State.Regs && r.State.Flags == q.State.Flags && r.State.At == q.State.At && slices.Equal(r.State.Mem, q.State.Mem)
}

func sameAll(a, b []api.Done) bool { return slices.EqualFunc(a, b, same) }

// holds tells whether what came of a trial is what must come by hand.
func (c trial) holds(t *testing.T, d api.Done) {
	t.Helper()
	r := d.Ran
	if c.fault != (api.Fault{}) {
		if !same(d, api.Done{Fault: c.fault}) {
			t.Errorf("%s comes, not %v alone, of %.200q", brief(d), c.fault, c.job.Text)
		}
		return
	}
	if d.Fault != (api.Fault{}) || r.How != c.how || r.Trap != c.trap || string(r.Output) != c.output || r.Read != c.read {
		t.Errorf("%s comes, not %d, %d, %.100q, %d, of %.200q", brief(d), c.how, c.trap, c.output, c.read, c.job.Text)
	}
	if r.How == api.RanFuel && r.Steps != c.job.Fuel || r.Steps > c.job.Fuel {
		t.Errorf("%s comes with fuel of %d of %.200q", brief(d), c.job.Fuel, c.job.Text)
	}
}

func cloneDone(d api.Done) api.Done {
	d.Ran.Output, d.Ran.State.Mem = slices.Clone(d.Ran.Output), slices.Clone(d.Ran.State.Mem)
	return d
}

func cloneAll(l []api.Done) (out []api.Done) {
	for _, d := range l {
		out = append(out, cloneDone(d))
	}
	return out
}

// spoil overwrites a list, with its spare room.
func spoil[T any](l []T, with T) {
	l = l[:cap(l)]
	for i := range l {
		l[i] = with
	}
}

func spoilDone(d api.Done) {
	spoil(d.Ran.Output, 'x')
	spoil(d.Ran.State.Mem, -1)
}
