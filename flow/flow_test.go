package flow_test

import (
	"math"
	"slices"
	"testing"

	"sough/api"
	"sough/flow"
	"sough/grammar"
	"sough/sample"
)

func edges(l ...int) []api.Edge {
	var out []api.Edge
	for i := 0; i < len(l); i += 2 {
		out = append(out, api.Edge{From: l[i], To: l[i+1]})
	}
	return out
}

func TestEdges(t *testing.T) { // P7.1
	p, f := grammar.Parse("block a{if x then c else a;}block b{if 1 then c else c;}block c{goto b;}block d{ret;}block e{ret;}")
	if f.E != api.OK {
		t.Fatal(f)
	}
	if l := flow.Edges(p); !slices.Equal(l, edges(0, 0, 0, 2, 1, 2, 2, 1)) {
		t.Error(l)
	}
	if l := flow.Exits(p); !slices.Equal(l, []int{3, 4}) {
		t.Error(l)
	}
	odd := api.Program{L: []api.Block{
		{Name: "a", T: api.Term{Kind: api.EndGoto, To: "b", Else: "a"}},
		{Name: "b", T: api.Term{Kind: api.EndIf, To: "none", Else: "a"}},
		{Name: "b", T: api.Term{Kind: 7, To: "a", Else: "a"}},
		{Name: "c", T: api.Term{Kind: api.EndRet, To: "a"}}}}
	if l := flow.Edges(odd); !slices.Equal(l, edges(0, 1, 1, 0)) {
		t.Error(l)
	}
	if len(flow.Edges(api.Program{})) != 0 || len(flow.Exits(api.Program{})) != 0 {
		t.Error("none")
	}
}

func TestSorted(t *testing.T) { // P7.1
	l := edges(3, 1, -5, 9, 3, 0, 3, 1, 0, 7, -5, 9)
	kept := slices.Clone(l)
	if got := flow.Sorted(l); !slices.Equal(got, edges(-5, 9, 0, 7, 3, 0, 3, 1)) {
		t.Error(got)
	}
	if got := flow.Reverse(l); !slices.Equal(got, edges(0, 3, 1, 3, 7, 0, 9, -5)) {
		t.Error(got)
	}
	if !slices.Equal(l, kept) || len(flow.Sorted(nil)) != 0 || len(flow.Reverse(nil)) != 0 {
		t.Error("changed")
	}
}

func TestNext(t *testing.T) { // P7.2
	l := edges(0, 3, 0, 1, 0, 1, 2, 0, 1, 0, 0, 9, 9, 0, -1, 0, 0, -1, 3, 3)
	for a, want := range map[int][]int{0: {1, 3}, 1: {0}, 2: {0}, 3: {3}, 9: nil, -1: nil, 4: nil, math.MinInt: nil} {
		if got := flow.Next(4, l, a); !slices.Equal(got, want) {
			t.Error(a, got)
		}
	}
	for b, want := range map[int][]int{0: {1, 2}, 1: {0}, 2: nil, 3: {0, 3}, 9: nil, -1: nil} {
		if got := flow.Back(4, l, b); !slices.Equal(got, want) {
			t.Error(b, got)
		}
	}
	if flow.Next(4, l, 7) != nil || flow.Next(0, l, 0) != nil || flow.Next(-3, l, -1) != nil {
		t.Error("no block")
	}
	if got := flow.Next(math.MaxInt, l, 9); !slices.Equal(got, []int{0}) {
		t.Error(got)
	}
	for _, c := range []struct {
		n          int
		from, want []int
	}{{4, []int{0}, []int{0, 1, 3}}, {4, []int{3, 3}, []int{3}}, {4, []int{2, 9, -1}, []int{0, 1, 2, 3}}, {4, []int{7}, nil}, {0, []int{0}, nil},
		{2, []int{0}, []int{0, 1}}, {10, []int{9}, []int{0, 1, 3, 9}}, {4, nil, nil}, {math.MaxInt, []int{1 << 50}, []int{1 << 50}}} {
		if got := flow.Reached(c.n, l, c.from); !slices.Equal(got, c.want) {
			t.Error(c, got)
		}
	}
}

func TestRight(t *testing.T) { // P7.2
	many := make([]api.Edge, 1025)
	for _, c := range []struct {
		n    int
		l    []api.Edge
		want bool
	}{{1, nil, true}, {0, nil, false}, {-1, nil, false}, {256, many[:1024], true}, {257, nil, false}, {1, many, false}, {2, edges(0, 1), true},
		{2, edges(0, 2), false}, {2, edges(2, 0), false}, {2, edges(0, -1), false}, {2, edges(-1, 0), false}} {
		if flow.Right(c.n, c.l) != c.want {
			t.Error(c.n, len(c.l))
		}
	}
}

func TestLaws(t *testing.T) { // P7.3
	for seed := range 200 {
		d := sample.New(seed)
		n := 1 + d.Below(9)
		l := d.Edges(n+2, d.Below(20))
		if !slices.Equal(flow.Reverse(flow.Reverse(l)), flow.Sorted(l)) {
			t.Fatal(l)
		}
		r := flow.Reached(n, l, []int{d.Below(n), d.Below(n + 3)})
		if !slices.Equal(flow.Reached(n, l, r), r) || !slices.IsSorted(r) {
			t.Fatal(l, r)
		}
		for _, u := range r {
			for _, v := range flow.Next(n, l, u) {
				if !slices.Contains(r, v) || !slices.Contains(flow.Back(n, l, v), u) {
					t.Fatal(l, u, v)
				}
			}
		}
	}
}
