package dom_test

import (
	"math"
	"slices"
	"testing"

	"sough/api"
	"sough/dom"
	"sough/flow"
	"sough/sample"
	"sough/system"
	"sough/wordset"
)

func edges(l ...int) []api.Edge {
	var out []api.Edge
	for i := 0; i < len(l); i += 2 {
		out = append(out, api.Edge{From: l[i], To: l[i+1]})
	}
	return out
}

func equal(a, b [][]int) bool { return slices.EqualFunc(a, b, slices.Equal) }

func TestSystem(t *testing.T) { // P51.1
	s, e := dom.System(3, edges(2, 1, 0, 1, 2, 1), 2)
	if e != api.OK || s.What != api.Must || s.Width != 3 || s.Nodes != 3 || !slices.Equal(s.Edges, edges(0, 1, 2, 1)) || !slices.Equal(s.Entry, []int{2}) || !slices.Equal(s.Init, []uint64{0}) || system.Check(s) != api.OK {
		t.Error(s, e)
	}
	for v := range 3 {
		if !slices.Equal(wordset.List(s.T[v].Gen), []int{v}) || wordset.Len(s.T[v].Kill) != 0 {
			t.Error(v, s.T[v])
		}
	}
	for i, c := range []struct {
		n    int
		l    []api.Edge
		root int
	}{{0, nil, 0}, {-1, nil, 0}, {257, nil, 0}, {2, edges(0, 2), 0}, {2, nil, 2}, {2, nil, -1}, {1, make([]api.Edge, 1025), 0}} {
		s, e := dom.System(c.n, c.l, c.root)
		a, e2 := dom.All(c.n, c.l, c.root)
		o, e3 := dom.Over(c.n, c.l, c.root, -1, 9)
		b, e4 := dom.Above(c.n, c.l, c.root)
		if e != api.ErrArg || e2 != api.ErrArg || e3 != api.ErrArg || e4 != api.ErrArg || s.Nodes != 0 || a != nil || o || b != nil {
			t.Error(i, e, e2, e3, e4)
		}
	}
}

func TestOver(t *testing.T) { // P51.2
	for i, c := range []struct {
		n     int
		l     []api.Edge
		root  int
		all   [][]int
		above []int
	}{
		{3, edges(0, 1, 1, 2), 0, [][]int{{0}, {0, 1}, {0, 1, 2}}, []int{-1, 0, 1}},
		{3, edges(0, 1, 1, 2), 1, [][]int{nil, {1}, {1, 2}}, []int{-2, -1, 1}},
		{1, edges(0, 0), 0, [][]int{{0}}, []int{-1}},
		{5, edges(0, 1, 0, 2, 1, 3, 2, 3, 3, 0, 4, 3, 4, 4), 0, [][]int{{0}, {0, 1}, {0, 2}, {0, 3}, nil}, []int{-1, 0, 0, 0, -2}},
		{5, edges(4, 3, 3, 2, 2, 3, 2, 1, 3, 1, 1, 0), 4, [][]int{{0, 1, 3, 4}, {1, 3, 4}, {2, 3, 4}, {3, 4}, {4}}, []int{1, 3, 3, 4, -1}},
	} {
		all, e := dom.All(c.n, c.l, c.root)
		above, e2 := dom.Above(c.n, c.l, c.root)
		if e != api.OK || e2 != api.OK || !equal(all, c.all) || !slices.Equal(above, c.above) {
			t.Error(i, all, above)
		}
	}
	for i, c := range []struct {
		a, b int
		want bool
		e    api.Errno
	}{{0, 2, true, 0}, {1, 2, true, 0}, {2, 2, true, 0}, {2, 1, false, 0}, {3, 3, false, 0}, {0, 3, false, 0}, {3, 0, false, 0}, {4, 0, false, api.ErrDomain}, {0, 4, false, api.ErrDomain}, {-1, 0, false, api.ErrDomain}, {0, -1, false, api.ErrDomain}} {
		if got, e := dom.Over(4, edges(0, 1, 1, 2, 3, 2), 0, c.a, c.b); got != c.want || e != c.e {
			t.Error(i, got, e)
		}
	}
}

func TestDepth(t *testing.T) { // P51.2
	for i, c := range []struct{ above, want []int }{
		{nil, nil}, {[]int{-1, 0, 1}, []int{1, 2, 3}}, {[]int{1, 2, 99}, []int{3, 2, 1}}, {[]int{0}, []int{-1}}, {[]int{1, 0, 0, -2, 3}, []int{-1, -1, -1, 1, 2}}, {[]int{math.MinInt, math.MaxInt, 1, 4, 2}, []int{1, 1, 2, 4, 3}},
	} {
		if got := dom.Depth(c.above); !slices.Equal(got, c.want) {
			t.Error(i, got)
		}
	}
	long := make([]int, 200000)
	for i := range long {
		long[i] = i - 1
	}
	if got := dom.Depth(long); got[199999] != 200000 {
		t.Error(got[199999])
	}
}

func TestGraphs(t *testing.T) { // P51.3, P51.2
	for seed := range 300 {
		d := sample.New(seed)
		n := 1 + d.Below(9)
		l := d.Edges(n, d.Below(3*n))
		root := d.Below(n)
		reached := flow.Reached(n, l, []int{root})
		all, _ := dom.All(n, l, root)
		above, _ := dom.Above(n, l, root)
		for a := range n {
			var without []api.Edge
			for _, e := range l {
				if e.From != a && e.To != a {
					without = append(without, e)
				}
			}
			left := flow.Reached(n, without, []int{root})
			for b := range n {
				want := slices.Contains(reached, b) && (a == b || a == root || !slices.Contains(left, b))
				if got, e := dom.Over(n, l, root, a, b); got != want || e != api.OK || slices.Contains(all[b], a) != want {
					t.Fatal(l, root, a, b, got)
				}
			}
		}
		for v, a := range above {
			switch {
			case v == root:
				if a != -1 {
					t.Fatal(l, above)
				}
			case !slices.Contains(reached, v):
				if a != -2 {
					t.Fatal(l, above)
				}
			default:
				if a == v || !slices.Contains(all[v], a) || len(all[a]) != len(all[v])-1 {
					t.Fatal(l, root, above, all)
				}
			}
		}
		depth := dom.Depth(above)
		for _, v := range reached {
			if depth[v] != len(all[v]) {
				t.Fatal(l, depth, all)
			}
		}
	}
}
