package batch

import (
	"runtime"
	"slices"
	"strings"
	"sync"
	"sync/atomic"
	"testing"
	"time"

	"pairlegal/api"
)

// O1: as many goroutines as workers says, who take jobs as they come free

// patience is how long a test waits for what must come.
const patience = time.Minute

// ends tells a fault if something does not come to its end.
func ends(t *testing.T, what string, f func()) {
	t.Helper()
	over := make(chan bool)
	go func() {
		f()
		close(over)
	}()
	select {
	case <-over:
	case <-time.After(patience):
		t.Fatalf("%s: it does not end", what)
	}
}

// TestEachOnce: each number is done, once, and all of that is over when spread is.
func TestEachOnce(t *testing.T) {
	for workers := 1; workers <= api.MaxWorkers; workers++ {
		for _, many := range []int{0, 1, 2, workers - 1, workers, workers + 1, api.MaxJobs} {
			times := make([]int, many) // The race detector tells if two workers meet here.
			ends(t, "numbers", func() { spread(many, workers, func(i int) { times[i]++ }) })
			for i, n := range times {
				if n != 1 {
					t.Errorf("%d of %d is done %d times by %d workers", i, many, n, workers)
				}
			}
		}
	}
}

// TestOneWorker takes the numbers in order.
func TestOneWorker(t *testing.T) {
	var order []int
	spread(api.MaxJobs, 1, func(i int) { order = append(order, i) })
	if len(order) != api.MaxJobs || !slices.IsSorted(order) {
		t.Errorf("%v comes", order)
	}
}

// TestAllAtWork: as many numbers as there are workers are begun ahead of any that is over, and no more than that are at work at once.
func TestAllAtWork(t *testing.T) {
	for workers := 1; workers <= api.MaxWorkers; workers++ {
		var open, most atomic.Int64
		var all sync.WaitGroup
		all.Add(workers)
		ends(t, "all at work", func() {
			spread(api.MaxJobs, workers, func(i int) {
				n := open.Add(1)
				for m := most.Load(); n > m && !most.CompareAndSwap(m, n); m = most.Load() {
				}
				if i < workers {
					all.Done()
				}
				all.Wait()
				open.Add(-1)
			})
		})
		if most.Load() != int64(workers) {
			t.Errorf("%d are at work at once, not %d", most.Load(), workers)
		}
	}
}

// TestComeFree: all workers but one are held, each by a number, until all other numbers are done: by the one that comes free again and again.
func TestComeFree(t *testing.T) {
	for workers := 1; workers <= api.MaxWorkers; workers++ {
		var held, others sync.WaitGroup
		held.Add(workers - 1)
		others.Add(api.MaxJobs - (workers - 1))
		ends(t, "who comes free", func() {
			spread(api.MaxJobs, workers, func(i int) {
				if i < workers-1 {
					held.Done()
					others.Wait()
					return
				}
				held.Wait()
				others.Done()
			})
		})
	}
}

// TestAnyMayBeSlow: whichever number it is that takes its time, the others wait for it at most as long as there is no second worker.
func TestAnyMayBeSlow(t *testing.T) {
	for slow := range api.MaxJobs {
		var others sync.WaitGroup
		others.Add(api.MaxJobs - 1)
		ends(t, "a slow one", func() {
			spread(api.MaxJobs, 2, func(i int) {
				if i != slow {
					others.Done()
					return
				}
				others.Wait()
			})
		})
	}
}

// standing is how many goroutines there are that spread began.
func standing() int {
	room := make([]byte, 1<<20)
	return strings.Count(string(room[:runtime.Stack(room, true)]), "created by pairlegal/batch.spread")
}

// mostStanding is how many workers are seen at once while All is asked.
func mostStanding(t *testing.T, l []api.Job, workers int) (most int) {
	t.Helper()
	over := make(chan bool)
	go func() {
		All(l, workers)
		close(over)
	}()
	for {
		select {
		case <-over:
			return most
		default:
			most = max(most, standing())
		}
	}
}

// nobodyStands waits until those who have done their work are gone, too.
func nobodyStands() bool {
	for end := time.Now().Add(patience); standing() > 0; time.Sleep(time.Millisecond) {
		if time.Now().After(end) {
			return false
		}
	}
	return true
}

// TestGoroutines: while All does jobs that take long, just as many as workers says are there, and then nobody.
func TestGoroutines(t *testing.T) {
	l := make([]api.Job, api.MaxJobs)
	spoil(l, job(forever, "x", api.MaxFuel))
	for _, workers := range []int{1, 2, 3, 7, 16} {
		most := 0
		for range 10 { // On a machine that has much to do they may be gone ahead of the first look.
			if most = max(most, mostStanding(t, l, workers)); most >= workers {
				break
			}
		}
		if most != workers {
			t.Errorf("%d are seen, not %d", most, workers)
		}
		if !nobodyStands() {
			t.Fatalf("somebody of %d is left", workers)
		}
	}
}

// TestNobodyIsLeft: whatever is asked.
func TestNobodyIsLeft(t *testing.T) {
	for _, jobs := range []int{0, 1, 5, api.MaxJobs, api.MaxJobs + 1} {
		for _, workers := range []int{-1, 0, 1, 2, api.MaxWorkers, api.MaxWorkers + 1} {
			All(make([]api.Job, jobs), workers)
			if !nobodyStands() {
				t.Fatalf("somebody is left of %d jobs and %d workers", jobs, workers)
			}
		}
	}
}
