package bound_test

import (
	"testing"

	"sough/api"
	"sough/bound"
	"sough/fair"
	"sough/flow"
	"sough/lattice"
	"sough/least"
	"sough/sample"
	"sough/solve"
)

func lone() api.System {
	return api.System{What: api.May, Width: 1, Nodes: 1, Init: []uint64{1}, Entry: []int{0}, T: []api.Trans{{Gen: []uint64{0}, Kill: []uint64{0}}}}
}

func TestNumbers(t *testing.T) { // P35.1
	if w, e := bound.Work(lone(), 1); w != 28 || e != api.OK {
		t.Error(w, e)
	}
	if p, e := bound.Picks(lone(), 1, 1); p != 40 || e != api.OK {
		t.Error(p, e)
	}
	s := api.System{What: api.Flat, Width: 2, Nodes: 2, Edges: []api.Edge{{From: 0, To: 1}, {From: 1, To: 1}, {From: 0, To: 1}}, Init: []uint64{1, 1}, T: make([]api.Trans, 2)}
	// n 2, e 2, h 4, W 2: E is 10
	if bound.Joins(s) != 8 || bound.Evals(s) != 10 {
		t.Error(bound.Joins(s), bound.Evals(s))
	}
	if w, e := bound.Work(s, 3); w != 10*4+6*23+5*2*2+8*11 || e != api.OK {
		t.Error(w, e)
	}
	if p, e := bound.Picks(s, 3, 5); p != 5*(10*4+6*23+5*2*2+8*11+12) || e != api.OK {
		t.Error(p, e)
	}
	s.Width, s.Init = 0, nil // no words count as one
	if w, e := bound.Work(s, 1); w != 2*3+6*5+1*2*1+0 || e != api.OK || bound.Joins(s) != 0 || bound.Evals(s) != 2 {
		t.Error(w, e)
	}
	if w, e := bound.Work(lone(), 64); w != 3+6*66+133 || e != api.OK {
		t.Error(w, e)
	}
	bad := lone()
	bad.Init = nil
	if bound.Joins(bad) != 0 || bound.Evals(bad) != 0 {
		t.Error("not right")
	}
	for i, c := range []struct {
		s          api.System
		workers, k int
		work, want api.Errno
	}{{bad, 0, 0, api.ErrDomain, api.ErrDomain}, {api.System{}, 0, 0, api.ErrKind, api.ErrKind}, {lone(), 0, 0, api.ErrArg, api.ErrArg}, {lone(), 65, 1, api.ErrArg, api.ErrArg}, {lone(), 1, 0, api.OK, api.ErrArg}, {lone(), 1, 4097, api.OK, api.ErrArg},
		{lone(), 1, 4096, api.OK, api.OK}, {lone(), 1, -1, api.OK, api.ErrArg}} {
		w, e := bound.Work(c.s, c.workers)
		p, f := bound.Picks(c.s, c.workers, c.k)
		if e != c.work || f != c.want || e != api.OK && w != 0 || f != api.OK && p != 0 {
			t.Error(i, w, e, p, f)
		}
	}
}

// slow tells a script that is fair with k: the workers that aren't favoured
// come as late as they may.
func slow(d *sample.Dice, workers, k, long int) []api.Pick {
	var l []api.Pick
	last := make([]int, workers)
	favour := d.Below(workers)
	for i := range long {
		w := favour
		late := 0
		for v := range last {
			if i-last[v] > late && i-last[v] >= k-workers {
				late, w = i-last[v], v
			}
		}
		last[w] = i + 1
		l = append(l, api.Pick{Worker: w, Draw: d.Below(64)})
		if d.Below(20) == 0 {
			favour = d.Below(workers)
		}
	}
	return l
}

func TestNeverSpent(t *testing.T) { // P35.2
	tight := 0
	for seed := range 250 {
		d := sample.New(seed)
		s := d.System(1+d.Below(3), d.Below(4), 1+d.Below(4), d.Below(6))
		workers := 1 + d.Below(4)
		k := 2*workers - 1
		script := []api.Pick{}
		picks, e := bound.Picks(s, workers, k)
		if e != api.OK {
			t.Fatal(e)
		}
		switch d.Below(3) {
		case 0:
			k = workers
			picks, _ = bound.Picks(s, workers, k)
			script = fair.Round(workers, picks+1)
		case 1:
			script = fair.Weave(workers, picks+1, []int{d.Below(1000), d.Below(1000), d.Below(1000), 7, 3, d.Below(1000), 11})
		case 2:
			k = 3*workers + d.Below(9)
			picks, _ = bound.Picks(s, workers, k)
			script = slow(d, workers, k, picks+1)
		}
		if !fair.Is(script, workers, k) {
			t.Fatal("not fair", workers, k, fair.Window(script, workers))
		}
		f, e := solve.Run(s, workers, script)
		if e != api.OK || f.Joins > bound.Joins(s) || f.Evals > bound.Evals(s) {
			t.Fatal(seed, e, f)
		}
		if 4*f.Used > picks {
			tight++
		}
		want, _, _ := least.Solve(s)
		if !least.Same(f.Values, want) {
			t.Fatal(seed)
		}
		h := lattice.Height(s.What, s.Width)
		if bound.Joins(s) != s.Nodes*h || bound.Evals(s) != s.Nodes+len(flow.Sorted(s.Edges))*h {
			t.Fatal(seed)
		}
	}
	if tight == 0 {
		t.Error("no script came near")
	}
}
