package batch

import (
	"bytes"
	"slices"
	"sync"
	"testing"

	"pairlegal/api"
)

// Z1 to Z5

// TestAskedAgain: the same comes whenever it is asked, with other calls between, though what came ahead was overwritten.
func TestAskedAgain(t *testing.T) {
	l := jobsOf(trials())
	ones := func() (out []api.Done) {
		for _, j := range l {
			d := One(j)
			out = append(out, cloneDone(d))
			spoilDone(d)
		}
		return out
	}
	all := func(workers int) []api.Done {
		got := append(done(t, l[:api.MaxJobs], workers), done(t, l[api.MaxJobs:], workers)...)
		out := cloneAll(got)
		for _, d := range got {
			spoilDone(d)
		}
		return out
	}
	want := ones()
	for _, workers := range []int{1, 16, 3, 7, 2, 16, 1} {
		if !sameAll(all(workers), want) {
			t.Errorf("something else comes of %d workers", workers)
		}
	}
	if !sameAll(ones(), want) {
		t.Errorf("something else comes of One")
	}
}

// kept is a copy of jobs, with their bytes.
func kept(l []api.Job) []api.Job {
	l = slices.Clone(l)
	for i, j := range l {
		l[i].Input = slices.Clone(j.Input)
	}
	return l
}

func sameJobs(a, b []api.Job) bool {
	return slices.EqualFunc(a, b, func(x, y api.Job) bool {
		return x.Text == y.Text && bytes.Equal(x.Input, y.Input) && x.Fuel == y.Fuel
	})
}

// TestOnlyReads: jobs are not changed or kept, nor the room behind their list and behind their bytes, and that is not looked at.
func TestOnlyReads(t *testing.T) {
	l := jobsOf(trials())
	for _, n := range []int{0, 1, 6, 20, api.MaxJobs} {
		for _, workers := range []int{1, 2, 16} {
			want := cloneAll(done(t, kept(l[:n]), workers))
			// Behind the jobs there are others, and behind the bytes, too: all in one room.
			list := make([]api.Job, 0, n+5)
			room := []byte{}
			for _, j := range l[:n] {
				room = append(append(room, j.Input...), "behind"...)
			}
			at := 0
			for _, j := range l[:n] {
				list = append(list, api.Job{Text: j.Text, Input: room[at : at+len(j.Input)], Fuel: j.Fuel})
				at += len(j.Input) + len("behind")
			}
			spoil(list[n:], job(tellsA, "behind", 100))
			before, roomBefore := kept(list[:n+5]), slices.Clone(room)
			got := done(t, list, workers)
			if !sameAll(got, want) {
				t.Errorf("something else comes of %d jobs and %d workers, with room behind", n, workers)
			}
			if !sameJobs(list[:n+5], before) || !bytes.Equal(room, roomBefore) {
				t.Errorf("%d jobs are changed by %d workers", n, workers)
			}
			spoil(list, api.Job{})
			spoil(room, 'z')
			if !sameAll(got, want) {
				t.Errorf("jobs are a part of what came of %d of them and %d workers", n, workers)
			}
			for _, d := range got {
				spoilDone(d)
			}
			if !bytes.Equal(room, bytes.Repeat([]byte("z"), len(room))) {
				t.Errorf("what came is a part of %d jobs", n)
			}
		}
	}
}

// TestNoneShares: what came of a job shares no memory with what came of another one, though both are the same and take in the same bytes.
func TestNoneShares(t *testing.T) {
	input := []byte("a b")
	l := make([]api.Job, api.MaxJobs)
	for i, c := range trials()[:api.MaxJobs] {
		l[i] = c.job
		if i%2 == 0 {
			l[i] = api.Job{Text: cat, Input: input, Fuel: api.MaxFuel}
		}
	}
	for _, workers := range []int{1, 3, 16} {
		got := done(t, l, workers)
		want := cloneAll(got)
		for i, d := range got {
			if !same(d, want[i]) {
				t.Errorf("job %d shares with one ahead of it", i)
			}
			spoilDone(d)
		}
		if string(input) != "a b" {
			t.Errorf("%q is left of what came in", input)
		}
	}
}

// TestSideBySide: many ask at once, each for many at once, with the same jobs, and each one gets the same.
func TestSideBySide(t *testing.T) {
	l := jobsOf(trials())[:api.MaxJobs]
	want := done(t, l, 1)
	var over sync.WaitGroup
	for k := range 6 {
		over.Add(1)
		go func() {
			defer over.Done()
			for _, workers := range []int{1 + k, api.MaxWorkers - k} {
				if got, err := All(l, workers); err != api.OK || !sameAll(got, want) {
					t.Errorf("%v or something else comes of %d workers", err, workers)
				}
			}
			if d := One(l[k]); !same(d, want[k]) {
				t.Errorf("%s comes, not %s", brief(d), brief(want[k]))
			}
		}()
	}
	over.Wait()
}

// FuzzJobs: whatever the jobs are, each call ends, and one after the other and many at once tell the same.
func FuzzJobs(f *testing.F) {
	for i, c := range trials() {
		f.Add(c.job.Text, c.job.Input, c.job.Fuel, i*3%40, i%20-1)
	}
	f.Fuzz(func(t *testing.T, text string, input []byte, fuel, jobs, workers int) {
		jobs &= 63
		j := api.Job{Text: text, Input: input, Fuel: fuel}
		l := make([]api.Job, jobs)
		for i := range l {
			if l[i] = j; i%3 == 1 {
				l[i] = job(tellsA, "", i*5)
			}
		}
		want, short := One(j), []api.Done{}
		for _, k := range l {
			if k.Text == tellsA {
				short = append(short, One(k))
			} else {
				short = append(short, want)
			}
		}
		got, err := All(l, workers)
		switch {
		case jobs > api.MaxJobs:
			if err != api.ErrMany || len(got) != 0 {
				t.Fatalf("%d and %v come of %d jobs", len(got), err, jobs)
			}
		case workers < 1 || workers > api.MaxWorkers:
			if err != api.ErrRange || len(got) != 0 {
				t.Fatalf("%d and %v come of %d workers", len(got), err, workers)
			}
		case err != api.OK || !sameAll(got, short):
			t.Fatalf("%v or something else comes of %d jobs and %d workers", err, jobs, workers)
		}
	})
}
