package reach_test

import (
	"slices"
	"testing"

	"sough/api"
	"sough/exec"
	"sough/flow"
	"sough/grammar"
	"sough/proper"
	"sough/reach"
	"sough/sample"
	"sough/system"
	"sough/tables"
	"sough/trips"
	"sough/wordset"
)

func parse(t *testing.T, s string) api.Program {
	p, f := grammar.Parse(s)
	if f.E != api.OK {
		t.Fatal(f)
	}
	return p
}

// Sites: x@start 0, y@start 1, x@a.0 2, x@a.2 3, y@b.0 4, x@b.1 5.
const text = "block a { x = 1; out x; in x; if y then a else b; } block b { y = x; x = y; goto a; } block c { ret; }"

func TestSystem(t *testing.T) { // P39.1
	p := parse(t, text)
	s, e := reach.System(p)
	if e != api.OK || s.What != api.May || s.Width != 6 || s.Nodes != 3 || !slices.Equal(s.Edges, flow.Edges(p)) || !slices.Equal(s.Entry, []int{0}) || !slices.Equal(wordset.List(s.Init), []int{0, 1}) || system.Check(s) != api.OK {
		t.Error(s, e)
	}
	for b, want := range [][2][]int{{{3}, {0, 2, 5}}, {{4, 5}, {0, 1, 2, 3}}, {nil, nil}} {
		if !slices.Equal(wordset.List(s.T[b].Gen), want[0]) || !slices.Equal(wordset.List(s.T[b].Kill), want[1]) {
			t.Error(b, s.T[b])
		}
	}
	for _, p := range []api.Program{{}, {L: []api.Block{{Name: "a", T: api.Term{Kind: 8}}}}} {
		want := proper.Check(p)
		s, e := reach.System(p)
		b, n, e2 := reach.Sets(p)
		l, e3 := reach.Of(p, -1, 0, "x")
		if want == api.OK || e != want || e2 != want || e3 != want || s.Nodes != 0 || b != nil || n != nil || l != nil {
			t.Error(e, e2, e3)
		}
	}
}

func TestSets(t *testing.T) { // P39.2
	p := parse(t, text)
	b, n, e := reach.Sets(p)
	want := [][][]int{{{0, 1, 3, 4, 5}, {1, 3, 4}, nil}, {{1, 3, 4}, {4, 5}, nil}}
	for i := range 3 {
		if e != api.OK || !slices.Equal(b[i], want[0][i]) || !slices.Equal(n[i], want[1][i]) {
			t.Error(i, b, n)
		}
	}
	for i, c := range []struct {
		block, stmt int
		v           string
		want        []int
		e           api.Errno
	}{
		{0, 0, "x", []int{0, 3, 5}, 0}, {0, 1, "x", []int{2}, 0}, {0, 2, "x", []int{2}, 0}, {0, 3, "x", []int{3}, 0}, {0, 3, "y", []int{1, 4}, 0}, {1, 0, "x", []int{3}, 0}, {1, 1, "x", []int{3}, 0}, {1, 2, "x", []int{5}, 0}, {1, 1, "y", []int{4}, 0},
		{2, 0, "x", nil, 0}, {0, 4, "x", nil, api.ErrArg}, {0, -1, "x", nil, api.ErrArg}, {3, 0, "x", nil, api.ErrArg}, {-1, 0, "x", nil, api.ErrArg}, {0, 0, "z", nil, api.ErrArg}, {0, 0, "", nil, api.ErrArg},
	} {
		if got, e := reach.Of(p, c.block, c.stmt, c.v); !slices.Equal(got, c.want) || e != c.e {
			t.Error(i, got, e)
		}
	}
	p = parse(t, "block a { x = 1; goto a; }")
	if b, _, _ := reach.Sets(p); !slices.Equal(b[0], []int{0, 1}) {
		t.Error(b)
	}
}

func TestTrue(t *testing.T) { // P39.3
	for seed := range 300 {
		d := sample.New(seed)
		p := d.Program(1+d.Below(5), 6, 1+d.Below(4))
		in := d.Nums(5)
		r, _ := exec.All(p, in, 20)
		last, _ := trips.Last(p, in, 20)
		begins, _, _ := reach.Sets(p)
		for k, b := range trips.Blocks(r) {
			for _, site := range last[k] {
				if !slices.Contains(begins[b], site) {
					t.Fatal(seed, k, site, begins[b])
				}
			}
		}
		sites := tables.Sites(p)
		for _, v := range proper.Vars(p) {
			l, e := reach.Of(p, 0, 0, v)
			if e != api.OK || slices.ContainsFunc(l, func(i int) bool { return sites[i].Var != v || !slices.Contains(begins[0], i) }) {
				t.Fatal(seed, v, l)
			}
		}
	}
}
