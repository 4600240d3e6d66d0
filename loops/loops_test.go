package loops_test

import (
	"reflect"
	"slices"
	"testing"

	"sough/api"
	"sough/dom"
	"sough/flow"
	"sough/loops"
	"sough/sample"
)

func edges(l ...int) []api.Edge {
	var out []api.Edge
	for i := 0; i < len(l); i += 2 {
		out = append(out, api.Edge{From: l[i], To: l[i+1]})
	}
	return out
}

func TestLoops(t *testing.T) { // P52.1, P52.2
	for i, c := range []struct {
		n     int
		l     []api.Edge
		root  int
		back  []api.Edge
		of    []loops.Loop
		depth []int
		clean bool
	}{
		{3, edges(0, 1, 1, 2, 2, 1), 0, edges(2, 1), []loops.Loop{{1, []int{1, 2}}}, []int{0, 1, 1}, true},
		{1, edges(0, 0), 0, edges(0, 0), []loops.Loop{{0, []int{0}}}, []int{1}, true},
		{1, nil, 0, nil, nil, []int{0}, true},
		{3, edges(0, 1, 0, 2, 1, 2, 2, 1), 0, nil, nil, []int{0, 0, 0}, false},
		{4, edges(0, 1, 1, 2, 2, 3, 3, 2, 3, 1, 3, 0, 2, 2), 0, edges(2, 2, 3, 0, 3, 1, 3, 2), []loops.Loop{{0, []int{0, 1, 2, 3}}, {1, []int{1, 2, 3}}, {2, []int{2, 3}}}, []int{1, 2, 3, 3}, true},
		{4, edges(0, 1, 1, 0, 2, 3, 3, 2, 3, 1), 0, edges(1, 0), []loops.Loop{{0, []int{0, 1}}}, []int{1, 1, 0, 0}, true},
		{4, edges(1, 2, 2, 1, 2, 3, 3, 1, 0, 2), 1, edges(2, 1, 3, 1), []loops.Loop{{1, []int{1, 2, 3}}}, []int{0, 1, 1, 1}, true},
		{3, edges(0, 1, 1, 1, 1, 1, 1, 2, 2, 0), 0, edges(1, 1, 2, 0), []loops.Loop{{0, []int{0, 1, 2}}, {1, []int{1}}}, []int{1, 2, 1}, true},
	} {
		back, e1 := loops.Back(c.n, c.l, c.root)
		of, e2 := loops.Of(c.n, c.l, c.root)
		depth, e3 := loops.Depth(c.n, c.l, c.root)
		clean, e4 := loops.Clean(c.n, c.l, c.root)
		if e1 != api.OK || e2 != api.OK || e3 != api.OK || e4 != api.OK || !slices.Equal(back, c.back) || !reflect.DeepEqual(of, c.of) || !slices.Equal(depth, c.depth) || clean != c.clean {
			t.Error(i, back, of, depth, clean)
		}
	}
	for i, c := range []struct {
		n    int
		l    []api.Edge
		root int
	}{{0, nil, 0}, {257, nil, 0}, {2, edges(0, 2), 0}, {2, nil, 2}, {2, nil, -1}} {
		back, e1 := loops.Back(c.n, c.l, c.root)
		of, e2 := loops.Of(c.n, c.l, c.root)
		depth, e3 := loops.Depth(c.n, c.l, c.root)
		clean, e4 := loops.Clean(c.n, c.l, c.root)
		if e1 != api.ErrArg || e2 != api.ErrArg || e3 != api.ErrArg || e4 != api.ErrArg || back != nil || of != nil || depth != nil || clean {
			t.Error(i, e1, e2, e3, e4)
		}
	}
}

// without tells the edges that don't touch a node.
func without(l []api.Edge, v int) []api.Edge {
	return slices.DeleteFunc(slices.Clone(l), func(e api.Edge) bool { return e.From == v || e.To == v })
}

func TestGraphs(t *testing.T) { // P52.3, P52.1
	some := 0
	for seed := range 400 {
		d := sample.New(seed)
		n := 1 + d.Below(9)
		l := d.Edges(n, d.Below(3*n))
		root := d.Below(n)
		of, _ := loops.Of(n, l, root)
		back, _ := loops.Back(n, l, root)
		reached := flow.Reached(n, l, []int{root})
		some += len(of)
		for i, x := range of {
			var want []int
			for _, v := range reached {
				is := v == x.Head
				for _, e := range back {
					is = is || e.To == x.Head && v != x.Head && (v == e.From || slices.Contains(flow.Reached(n, without(l, x.Head), []int{v}), e.From))
				}
				if is {
					want = append(want, v)
				}
			}
			if !slices.Equal(x.Nodes, want) || i > 0 && of[i-1].Head >= x.Head {
				t.Fatal(l, root, x, want)
			}
			for _, v := range x.Nodes {
				if over, _ := dom.Over(n, l, root, x.Head, v); !over {
					t.Fatal(l, root, x, v)
				}
			}
			for j, y := range of {
				if i != j && slices.Contains(y.Nodes, x.Head) && slices.ContainsFunc(x.Nodes, func(v int) bool { return !slices.Contains(y.Nodes, v) }) {
					t.Fatal(l, root, x, y)
				}
			}
		}
	}
	if some < 100 {
		t.Error(some)
	}
}
