package batch

import (
	"testing"

	"pairlegal/api"
	"pairlegal/drive"
)

// O1: One

// TestOne: what comes of jobs, by hand.
func TestOne(t *testing.T) {
	for _, c := range trials() {
		c.holds(t, One(c.job))
	}
}

// played is what Play tells of a job.
func played(j api.Job) (d api.Done) {
	d.Ran, d.Fault = drive.Play(j.Text, j.Input, j.Fuel)
	return d
}

// TestOneIsPlay: all that Play tells comes, the state too, with each input and each fuel.
func TestOneIsPlay(t *testing.T) {
	long := make([]byte, api.MaxInput+1)
	for _, c := range trials() {
		for _, input := range [][]byte{nil, {}, []byte("0"), []byte("a b\xff\x00"), long[:api.MaxInput], long} {
			for _, fuel := range []int{-1, 0, 1, 7, 100, 5000, api.MaxFuel, api.MaxFuel + 1} {
				j := api.Job{Text: c.job.Text, Input: input, Fuel: fuel}
				if got, want := One(j), played(j); !same(got, want) {
					t.Errorf("%s\ncomes, not\n%s\nof %d bytes, fuel of %d, and %.200q", brief(got), brief(want), len(input), fuel, j.Text)
				}
			}
		}
	}
}

// TestFuelIsSteps: by hand, a job that has just as many steps as it takes comes to its end, and with one less it does not.
func TestFuelIsSteps(t *testing.T) {
	for _, c := range runs() {
		whole := One(c.job)
		if whole.Ran.How != api.RanHalt {
			continue
		}
		j := c.job
		j.Fuel = whole.Ran.Steps
		if d := One(j); !same(d, whole) {
			t.Errorf("%s comes, not %s, of %.200q", brief(d), brief(whole), j.Text)
		}
		j.Fuel--
		if d := One(j); d.Ran.How != api.RanFuel || d.Ran.Steps != j.Fuel {
			t.Errorf("%s comes with a step less of %.200q", brief(d), j.Text)
		}
	}
}
