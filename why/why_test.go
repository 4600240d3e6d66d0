package why_test

import (
	"cmp"
	"math"
	"slices"
	"testing"

	"sough/api"
	"sough/flow"
	"sough/least"
	"sough/sample"
	"sough/why"
)

func system(what int, gen, kill []uint64, l ...api.Edge) api.System {
	s := api.System{What: what, Width: 2, Nodes: len(gen), Edges: l, Entry: []int{0}, Init: []uint64{1}}
	for v := range gen {
		s.T = append(s.T, api.Trans{Gen: gen[v : v+1], Kill: kill[v : v+1]})
	}
	return s
}

func edges(l ...int) []api.Edge {
	var out []api.Edge
	for i := 0; i < len(l); i += 2 {
		out = append(out, api.Edge{From: l[i], To: l[i+1]})
	}
	return out
}

func TestFacts(t *testing.T) { // P21.1
	// the node's number tells whether 0 is in its Gen (1), in its Kill (2)
	gen, kill := []uint64{0, 1, 0, 1}, []uint64{0, 0, 1, 1}
	for _, what := range []int{api.May, api.Must} {
		s := system(what, gen, kill)
		must := what == api.Must
		for v := range 4 {
			born, passes := v&1 == 1, v != 2
			if must {
				born, passes = v == 2, v&1 == 0
			}
			if why.Born(s, v, 0) != born || why.Passes(s, v, 0) != passes || why.Begins(s, v, 0) != (v == 0 && !must) || why.Begins(s, v, 1) != (v == 0 && must) {
				t.Error(what, v)
			}
			if why.Born(s, v, 1) || !why.Passes(s, v, 1) {
				t.Error(what, v)
			}
		}
		if why.Has(s, []uint64{1}, 0) == must || why.Has(s, []uint64{1}, 1) != must || why.Has(s, []uint64{4}, 0) || why.Has(s, nil, 1) || why.Has(s, []uint64{1, 0}, 0) {
			t.Error(what, "has")
		}
		for _, n := range []int{-1, 2, math.MinInt} {
			if why.Has(s, []uint64{1}, n) || why.Born(s, 3, n) || why.Passes(s, 0, n) || why.Begins(s, 0, n) || why.Check(s, 0, n, []int{0}) {
				t.Error(what, n)
			}
		}
		for _, v := range []int{-1, 4} {
			if why.Born(s, v, 0) || why.Passes(s, v, 1) || why.Begins(s, v, 0) || why.Check(s, v, 0, []int{v}) {
				t.Error(what, v)
			}
		}
		s.Init = nil
		if why.Has(s, []uint64{0}, 1) || why.Has(s, []uint64{3}, 1) || why.Born(s, 1, 0) || why.Born(s, 2, 0) || why.Passes(s, 0, 0) || why.Begins(s, 0, 0) {
			t.Error(what, "not right")
		}
	}
	s := api.System{What: api.Flat, Width: 1, Nodes: 1, Entry: []int{0}, Init: []uint64{1}, T: []api.Trans{{}}}
	if why.Has(s, []uint64{1}, 0) || why.Born(s, 0, 0) || why.Passes(s, 0, 0) || why.Begins(s, 0, 0) || why.Check(s, 0, 0, []int{0}) {
		t.Error("flat")
	}
}

func TestCheck(t *testing.T) { // P21.2
	s := system(api.May, []uint64{0, 2, 0, 0}, []uint64{0, 2, 0, 2}, edges(0, 1, 1, 2, 2, 2, 3, 2, 2, 1, 2, 3)...)
	for i, c := range []struct {
		v, n int
		way  []int
		want bool
	}{
		{0, 0, []int{0}, true}, {0, 1, []int{0}, false}, {1, 0, []int{0, 1}, true}, {1, 0, []int{1}, false}, {1, 1, []int{1}, false}, {2, 1, []int{1, 2}, true}, {2, 1, []int{1, 2, 2}, true},
		{2, 1, []int{0, 1, 2}, false}, {3, 1, []int{1, 2, 3}, true}, {2, 1, []int{1, 2, 3, 2}, false}, {1, 1, []int{1, 2, 1}, true}, {1, 1, []int{1, 2}, false}, {2, 1, []int{1, 2, 1}, false},
		{2, 1, nil, false}, {2, 1, []int{1, 0, 2}, false}, {2, 1, []int{9, 2}, false}, {2, 1, []int{1, 9, 2}, false}, {2, 1, []int{1, 1, 2}, false}, {3, 0, []int{0, 1, 2, 3}, true},
	} {
		if why.Check(s, c.v, c.n, c.way) != c.want {
			t.Error(i)
		}
	}
	for i, c := range []struct {
		v, n int
		want []int
	}{{0, 0, []int{0}}, {0, 1, nil}, {1, 0, []int{0, 1}}, {1, 1, []int{1, 2, 1}}, {2, 1, []int{1, 2}}, {3, 1, []int{1, 2, 3}}, {3, 0, []int{0, 1, 2, 3}}} {
		if got, is, e := why.Find(s, c.v, c.n); !slices.Equal(got, c.want) || is != (c.want != nil) || e != api.OK {
			t.Error(i, got, is, e)
		}
	}
}

func TestErrors(t *testing.T) { // P21.2
	s := system(api.May, []uint64{0}, []uint64{0})
	bad := s
	bad.Init = nil
	flat := api.System{What: api.Flat, Nodes: -1}
	wide := s
	wide.Width = 5000
	for i, c := range []struct {
		s    api.System
		v, n int
		want api.Errno
	}{{flat, 0, 0, api.ErrKind}, {api.System{}, 0, 0, api.ErrKind}, {wide, 0, 0, api.ErrKind}, {bad, 9, 9, api.ErrDomain}, {s, 1, 0, api.ErrArg}, {s, -1, 0, api.ErrArg}, {s, 0, 2, api.ErrArg}, {s, 0, -1, api.ErrArg}} {
		if w, is, e := why.Find(c.s, c.v, c.n); w != nil || is || e != c.want {
			t.Error(i, w, is, e)
		}
	}
}

// reasons tells all reasons of at most so many nodes, by the promise's own words.
func reasons(s api.System, v, n, most int) [][]int {
	var out [][]int
	var grow func(way []int)
	grow = func(way []int) {
		if why.Check(s, v, n, way) {
			out = append(out, slices.Clone(way))
		}
		if len(way) < most {
			for _, u := range flow.Back(s.Nodes, s.Edges, way[0]) {
				grow(append([]int{u}, way...))
			}
		}
	}
	grow([]int{v})
	slices.SortFunc(out, func(a, b []int) int { return cmp.Or(len(a)-len(b), slices.Compare(a, b)) })
	return out
}

func TestReasons(t *testing.T) { // P21.2, P21.3
	for seed := range 500 {
		d := sample.New(seed)
		s := d.System(1+d.Below(2), 1+d.Below(3), 1+d.Below(5), d.Below(9))
		want, _, _ := least.Solve(s)
		for v := range s.Nodes {
			for n := range s.Width {
				way, is, e := why.Find(s, v, n)
				if e != api.OK || is != why.Has(s, want[v], n) || is && !why.Check(s, v, n, way) {
					t.Fatal(seed, v, n, way, is, e)
				}
				if all := reasons(s, v, n, 5); len(way) <= 5 && len(all) > 0 && !slices.Equal(all[0], way) || len(all) > 0 && !is {
					t.Fatal(seed, v, n, way, all[0])
				}
			}
		}
	}
}
