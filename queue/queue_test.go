package queue_test

import (
	"testing"

	"sough/api"
	"sough/flow"
	"sough/lattice"
	"sough/least"
	"sough/queue"
	"sough/sample"
)

// chain: 0 to 1 to 2 to 1, of May: 0 begins with 1, 2 gives birth to 2.
func chain() api.System {
	t := api.Trans{Gen: []uint64{0}, Kill: []uint64{0}}
	return api.System{What: api.May, Width: 2, Nodes: 3, Edges: []api.Edge{{From: 0, To: 1}, {From: 1, To: 2}, {From: 2, To: 1}, {From: 0, To: 1}},
		Entry: []int{0}, Init: []uint64{1}, T: []api.Trans{t, t, {Gen: []uint64{2}, Kill: []uint64{1}}}}
}

func TestSolve(t *testing.T) { // P19.1
	for i, c := range []struct {
		first        []int
		evals, joins int
	}{
		{[]int{0, 1, 2}, 5, 4}, // 0: 1 gets 1; 1: 2 gets 1; 2: 1 gets 2; 1: 2 gets 2; 2
		{[]int{2, 1, 0}, 6, 4}, // 2: 1 gets 2; 1: 2 gets 2; 0: 1 gets 1; 2; 1: 2 gets 1; 2
		{[]int{1, 0, 2}, 5, 3}, // 1; 0: 1 gets 1; 2: 1 gets 2; 1: 2 gets both; 2
	} {
		w, e := queue.Solve(chain(), c.first)
		if e != api.OK || !least.Same(w.Values, [][]uint64{{1}, {3}, {3}}) || w.Evals != c.evals || w.Joins != c.joins {
			t.Error(i, w, e)
		}
	}
	one := api.System{What: api.Flat, Width: 1, Nodes: 1, Init: []uint64{1}, T: []api.Trans{{}}}
	if w, e := queue.Solve(one, []int{0}); e != api.OK || w.Evals != 1 || w.Joins != 0 || !least.Same(w.Values, [][]uint64{{0}}) {
		t.Error(w, e)
	}
	for i, first := range [][]int{nil, {0, 1}, {0, 1, 1}, {0, 1, 3}, {0, 1, 2, 0}, {-1, 0, 1}} {
		if w, e := queue.Solve(chain(), first); e != api.ErrArg || w.Values != nil || w.Evals != 0 {
			t.Error(i, w, e)
		}
	}
	bad := chain()
	bad.Init = nil
	if w, e := queue.Solve(bad, nil); e != api.ErrDomain || w.Values != nil {
		t.Error(w, e)
	}
	if queue.MostJoins(bad) != 0 || queue.MostEvals(bad) != 0 || queue.MostJoins(api.System{}) != 0 {
		t.Error("not right")
	}
}

func TestMost(t *testing.T) { // P19.2
	if j, e := queue.MostJoins(chain()), queue.MostEvals(chain()); j != 6 || e != 9 {
		t.Error(j, e)
	}
	s := chain()
	s.What, s.Init, s.T = api.Flat, []uint64{2, 2}, make([]api.Trans, 3)
	if j, e := queue.MostJoins(s), queue.MostEvals(s); j != 12 || e != 15 {
		t.Error(j, e)
	}
}

func TestLeast(t *testing.T) { // P19.3
	for seed := range 600 {
		d := sample.New(seed)
		s := d.Any()
		var first []int
		for v := range s.Nodes {
			at := d.Below(len(first) + 1)
			first = append(first[:at:at], append([]int{v}, first[at:]...)...)
		}
		w, e := queue.Solve(s, first)
		want, _, _ := least.Solve(s)
		if e != api.OK || !least.Same(w.Values, want) {
			t.Fatal(seed, w, want)
		}
		h := lattice.Height(s.What, s.Width)
		if queue.MostJoins(s) != s.Nodes*h || queue.MostEvals(s) != s.Nodes+len(flow.Sorted(s.Edges))*h {
			t.Fatal(seed)
		}
		if w.Joins > queue.MostJoins(s) || w.Evals > queue.MostEvals(s) || w.Evals > s.Nodes+w.Joins || w.Evals < s.Nodes {
			t.Fatal(seed, w)
		}
	}
}
