package batch

import (
	"fmt"
	"math"
	"math/rand"
	"testing"

	"pairlegal/api"
	"pairlegal/shelf"
)

// O1: All

// done is what comes of jobs of which something must come.
func done(t *testing.T, l []api.Job, workers int) []api.Done {
	t.Helper()
	d, err := All(l, workers)
	if err != api.OK || len(d) != len(l) {
		t.Fatalf("%d and %v come of %d jobs and %d workers", len(d), err, len(l), workers)
	}
	return d
}

// TestLimits: too many jobs are told ahead of too few or too many workers, whatever the jobs are.
func TestLimits(t *testing.T) {
	bad := []int{math.MinInt, -api.MaxWorkers, -1, 0, api.MaxWorkers + 1, 2 * api.MaxWorkers, math.MaxInt}
	refuses := func(jobs, workers int, want api.Errno) {
		t.Helper()
		for _, j := range []api.Job{{}, job(tellsA, "", 100), job("x", "", -1)} {
			l := make([]api.Job, jobs)
			spoil(l, j)
			if d, err := All(l, workers); err != want || len(d) != 0 {
				// Far more workers still, if they were not refused either, would take all memory.
				t.Fatalf("%d and %v come, not %v, of %d jobs and %d workers", len(d), err, want, jobs, workers)
			}
		}
	}
	for _, workers := range append(bad, 1, 2, api.MaxWorkers) {
		for _, jobs := range []int{api.MaxJobs + 1, api.MaxJobs + 2, 2 * api.MaxJobs, 1000} {
			refuses(jobs, workers, api.ErrMany)
		}
	}
	for _, workers := range bad {
		for _, jobs := range []int{0, 1, 2, api.MaxJobs - 1, api.MaxJobs} {
			refuses(jobs, workers, api.ErrRange)
		}
	}
}

// TestNoJobs: nothing comes of none, but what is wrong with the workers.
func TestNoJobs(t *testing.T) {
	for _, l := range [][]api.Job{nil, {}, make([]api.Job, 0, api.MaxJobs+1)} {
		for workers := 1; workers <= api.MaxWorkers; workers++ {
			done(t, l, workers)
		}
		if d, err := All(l, 0); len(d) != 0 || err != api.ErrRange {
			t.Errorf("%d and %v come of no jobs and no workers", len(d), err)
		}
	}
}

// TestAll: what comes of jobs by hand, of few and of as many as there may be, in their order, with each number of workers; what is wrong with one job leaves the others alone.
func TestAll(t *testing.T) {
	l := trials()
	for workers := 1; workers <= api.MaxWorkers; workers++ {
		for _, part := range [][]trial{l[:1], l[1:3], l[:api.MaxJobs-1], l[:api.MaxJobs], l[len(l)-api.MaxJobs:], l[len(l)-5:]} {
			for i, d := range done(t, jobsOf(part), workers) {
				part[i].holds(t, d)
			}
		}
	}
}

// TestOrder: the first jobs take the longest time, or the last ones, and yet what comes of them stands where they stood.
func TestOrder(t *testing.T) {
	for _, first := range []bool{true, false} {
		var l []api.Job
		for i := range api.MaxJobs {
			turns := 100 * i
			if first {
				turns = 100 * (api.MaxJobs - 1 - i)
			}
			l = append(l, job(fmt.Sprintf("void main() { i16 n = %d; while (n) { n = n - 1; } put(get()); put(%d); }", turns, i), string(rune('@'+i)), api.MaxFuel))
		}
		for _, workers := range []int{1, 2, 3, 5, 8, 15, 16} {
			for i, d := range done(t, l, workers) {
				if want := string([]byte{byte('@' + i), byte(i)}); d.Ran.How != api.RanHalt || string(d.Ran.Output) != want {
					t.Errorf("%s comes of job %d, not %q, of %d workers", brief(d), i, want, workers)
				}
			}
		}
	}
}

// TestTwo: two jobs' results come in their order.
func TestTwo(t *testing.T) {
	for workers := 1; workers <= api.MaxWorkers; workers++ {
		d := done(t, []api.Job{job("void main() { put(65); }", "", 1000), job("void main() { put(66); }", "", 1000)}, workers)
		if a, b := string(d[0].Ran.Output), string(d[1].Ran.Output); a != "A" || b != "B" {
			t.Errorf("%q and %q come of %d workers", a, b, workers)
		}
	}
}

// TestAllIsOneOfEach: jobs drawn at random, the same one more than once, too, tell all that each one tells alone.
func TestAllIsOneOfEach(t *testing.T) {
	l := jobsOf(trials())
	var alone []api.Done
	for _, j := range l {
		alone = append(alone, One(j))
	}
	r := rand.New(rand.NewSource(1))
	for range 40 {
		var drawn []api.Job
		var want []api.Done
		for range r.Intn(api.MaxJobs + 1) {
			at := r.Intn(len(l))
			drawn, want = append(drawn, l[at]), append(want, alone[at])
		}
		workers := 1 + r.Intn(api.MaxWorkers)
		if got := done(t, drawn, workers); !sameAll(got, want) {
			t.Errorf("something else comes of %d jobs and %d workers", len(drawn), workers)
		}
	}
}

// TestShelf: programs that stand ready, all of them at once.
func TestShelf(t *testing.T) {
	var l []api.Job
	var want []api.Done
	for i, name := range shelf.Names() {
		text, err := shelf.Text(name)
		if err != api.OK {
			t.Fatalf("%s: %v comes", name, err)
		}
		l = append(l, job(text, "5 3 ", 20000*(i%4)+200000))
		want = append(want, played(l[i]))
	}
	for _, workers := range []int{1, 4, 16} {
		if !sameAll(done(t, l, workers), want) {
			t.Errorf("something else comes of %d workers", workers)
		}
	}
	text, _ := shelf.Text("queens")
	for _, d := range done(t, []api.Job{job(text, "5 ", api.MaxFuel), job(text, "5 ", api.MaxFuel)}, 2) {
		if string(d.Ran.Output) != "10\n" {
			t.Errorf("%s comes of queens", brief(d))
		}
	}
}
