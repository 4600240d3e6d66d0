package scc_test

import (
	"reflect"
	"slices"
	"testing"

	"sough/api"
	"sough/flow"
	"sough/sample"
	"sough/scc"
)

func edges(l ...int) []api.Edge {
	var out []api.Edge
	for i := 0; i < len(l); i += 2 {
		out = append(out, api.Edge{From: l[i], To: l[i+1]})
	}
	return out
}

func TestOf(t *testing.T) { // P13.1
	for i, c := range []struct {
		n       int
		l       []api.Edge
		parts   [][]int
		which   []int
		between []api.Edge
		round   bool
	}{
		{3, edges(0, 1, 1, 0, 1, 2), [][]int{{0, 1}, {2}}, []int{0, 0, 1}, edges(0, 1), true},
		{4, edges(0, 3, 3, 2, 2, 1, 1, 3, 1, 0), [][]int{{0, 1, 2, 3}}, []int{0, 0, 0, 0}, nil, true},
		{1, nil, [][]int{{0}}, []int{0}, nil, false},
		{1, edges(0, 0), [][]int{{0}}, []int{0}, nil, true},
		{3, edges(2, 1, 2, 0, 1, 0), [][]int{{2}, {1}, {0}}, []int{2, 1, 0}, edges(0, 1, 0, 2, 1, 2), false},
		{4, edges(3, 0), [][]int{{1}, {2}, {3}, {0}}, []int{3, 0, 1, 2}, edges(2, 3), false},
		{6, edges(5, 4, 4, 5, 0, 3, 3, 0, 4, 0, 4, 3, 2, 2), [][]int{{1}, {2}, {4, 5}, {0, 3}}, []int{3, 0, 1, 3, 2, 2}, edges(2, 3), true},
	} {
		p, e := scc.Of(c.n, c.l)
		w, e2 := scc.Which(c.n, c.l)
		b, e3 := scc.Between(c.n, c.l)
		if e != api.OK || e2 != api.OK || e3 != api.OK || !reflect.DeepEqual(p, c.parts) || !slices.Equal(w, c.which) || !slices.Equal(b, c.between) || scc.Round(c.n, c.l) != c.round {
			t.Error(i, p, w, b)
		}
	}
	for i, c := range []struct {
		n int
		l []api.Edge
	}{{0, nil}, {-1, nil}, {257, nil}, {2, edges(0, 2)}, {2, edges(-1, 0, 0, 0)}, {1, make([]api.Edge, 1025)}} {
		p, e := scc.Of(c.n, c.l)
		w, e2 := scc.Which(c.n, c.l)
		b, e3 := scc.Between(c.n, c.l)
		if p != nil || w != nil || b != nil || e != api.ErrArg || e2 != api.ErrArg || e3 != api.ErrArg || scc.Round(c.n, c.l) {
			t.Error(i, e, e2, e3)
		}
	}
	p, _ := scc.Of(4, edges(0, 1, 1, 0))
	for i := range p {
		_ = append(p[i], 99)
		p[i][0] += 100
	}
	if !reflect.DeepEqual(p, [][]int{{100, 1}, {102}, {103}}) {
		t.Error("shared", p)
	}
}

// reaches tells whether there is a way from a to b.
func reaches(n int, l []api.Edge, a, b int) bool {
	return slices.Contains(flow.Reached(n, l, []int{a}), b)
}

func TestGraphs(t *testing.T) { // P13.1, P13.2
	for seed := range 300 {
		d := sample.New(seed)
		n := 1 + d.Below(9)
		l := d.Edges(n, d.Below(2*n))
		parts, _ := scc.Of(n, l)
		which, _ := scc.Which(n, l)
		met := 0
		for i, p := range parts {
			met += len(p)
			for _, v := range p {
				if which[v] != i {
					t.Fatal(l, parts, which)
				}
			}
		}
		if met != n {
			t.Fatal(l, parts)
		}
		for a := range n {
			for b := range n {
				if together := reaches(n, l, a, b) && reaches(n, l, b, a); together != (which[a] == which[b]) {
					t.Fatal(l, parts, a, b)
				}
			}
		}
		between, _ := scc.Between(n, l)
		for _, e := range between {
			if e.From >= e.To {
				t.Fatal(l, between)
			}
		}
		order(t, parts, between)
	}
	chain := edges()
	for i := range 255 {
		chain = append(chain, api.Edge{From: i, To: i + 1})
	}
	if p, e := scc.Of(256, append(chain, api.Edge{From: 255})); e != api.OK || len(p) != 1 || len(p[0]) != 256 {
		t.Error(p, e)
	}
}

// order holds each part against those behind it: none of these could have come
// ahead, but with a greater least node.
func order(t *testing.T, parts [][]int, between []api.Edge) {
	for i := range parts {
		for j := i + 1; j < len(parts); j++ {
			free := !slices.ContainsFunc(between, func(e api.Edge) bool { return e.To == j && e.From >= i })
			if free && parts[j][0] < parts[i][0] {
				t.Fatal(parts, i, j)
			}
		}
	}
}
