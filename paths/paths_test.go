package paths_test

import (
	"cmp"
	"math"
	"reflect"
	"slices"
	"testing"

	"sough/api"
	"sough/lattice"
	"sough/least"
	"sough/paths"
	"sough/sample"
	"sough/system"
)

func may(nodes int, l ...api.Edge) api.System {
	s := api.System{What: api.May, Width: 3, Nodes: nodes, Edges: l, Entry: []int{0}, Init: []uint64{1}}
	for v := range nodes {
		s.T = append(s.T, api.Trans{Gen: []uint64{uint64(v) & 2}, Kill: []uint64{uint64(v) & 1}})
	}
	return s
}

func full(n int) api.System {
	var l []api.Edge
	for a := range n {
		for b := range n {
			l = append(l, api.Edge{From: a, To: b})
		}
	}
	return may(n, l...)
}

func TestAlong(t *testing.T) { // P20.1
	s := may(3, api.Edge{From: 0, To: 1}, api.Edge{From: 0, To: 2}, api.Edge{From: 2, To: 2})
	for i, c := range []struct {
		way  []int
		want []uint64
	}{{[]int{0}, []uint64{1}}, {[]int{1}, []uint64{0}}, {[]int{0, 1}, []uint64{1}}, {[]int{0, 2}, []uint64{1}}, {[]int{0, 2, 2, 2}, []uint64{3}}, {[]int{2, 2}, []uint64{2}},
		{nil, nil}, {[]int{1, 0}, nil}, {[]int{1, 1}, nil}, {[]int{3}, nil}, {[]int{-1}, nil}, {[]int{0, 1, 2}, nil}, {[]int{0, 5}, nil}, {[]int{math.MinInt, 0}, nil}} {
		e := api.OK
		if c.want == nil {
			e = api.ErrArg
		}
		if got, ge := paths.Along(s, c.way); !slices.Equal(got, c.want) || ge != e || paths.Is(s, c.way) != (e == api.OK) {
			t.Error(i, got, ge)
		}
	}
	s.Init = nil
	if got, e := paths.Along(s, []int{9}); got != nil || e != api.ErrDomain || paths.Is(s, []int{0}) {
		t.Error(e)
	}
}

func TestAll(t *testing.T) { // P20.2
	s := may(3, api.Edge{From: 0, To: 1}, api.Edge{From: 0, To: 1}, api.Edge{From: 1, To: 0}, api.Edge{From: 2, To: 1}, api.Edge{From: 1, To: 1})
	if l, e := paths.All(s, 1, 2); e != api.OK || !reflect.DeepEqual(l, [][]int{{1}, {0, 1}, {1, 1}, {2, 1}, {0, 1, 1}, {1, 0, 1}, {1, 1, 1}, {2, 1, 1}}) {
		t.Error(l, e)
	}
	for _, most := range []int{0, -1, math.MinInt} {
		if l, e := paths.All(s, 2, most); e != api.OK || !reflect.DeepEqual(l, [][]int{{2}}) {
			t.Error(l, e)
		}
	}
	ring := may(2, api.Edge{From: 0, To: 1}, api.Edge{From: 1, To: 0})
	if l, e := paths.All(ring, 0, math.MaxInt); e != api.OK || len(l) != 9 || !slices.Equal(l[8], []int{0, 1, 0, 1, 0, 1, 0, 1, 0}) {
		t.Error(l, e)
	}
	for _, v := range []int{-1, 3} {
		l, e := paths.All(s, v, 2)
		a, e2 := paths.Meet(s, v, 2)
		if l != nil || a != nil || e != api.ErrArg || e2 != api.ErrArg {
			t.Error(e, e2)
		}
	}
	if _, e := paths.All(api.System{}, -1, 2); e != api.ErrKind {
		t.Error(e)
	}
	if l, e := paths.All(full(4), 0, 5); e != api.OK || len(l) != 1+4+16+64+256+1024 {
		t.Error(len(l), e)
	}
	if l, e := paths.All(full(32), 0, 8); e != api.ErrLimit || l != nil {
		t.Error(len(l), e)
	}
	if a, e := paths.Meet(full(32), 0, 8); e != api.ErrLimit || a != nil {
		t.Error(e)
	}
	if l, e := paths.All(full(16), 0, 2); e != api.OK || len(l) != 273 {
		t.Error(len(l), e)
	}
	long := may(256)
	for range 4 {
		for v := range 255 {
			long.Edges = append(long.Edges, api.Edge{From: v, To: v + 1})
		}
	}
	if l, e := paths.All(long, 255, 8); e != api.OK || len(l) != 9 {
		t.Error(len(l), e)
	}
	if l, e := paths.All(full(2), 0, 8); e != api.OK || len(l) != 511 {
		t.Error(len(l), e)
	}
	four := full(2) // 2 ways a step, and 8 nodes beside at the front: more than 4,096 in all
	for v := 2; v < 34; v++ {
		four.Edges = append(four.Edges, api.Edge{From: v, To: 0})
	}
	four.Nodes, four.T = 34, may(34).T
	if l, e := paths.All(four, 0, 7); e != api.OK || len(l) != 255+32*(1+1+2+4+8+16+32) {
		t.Error(len(l), e)
	}
	if l, e := paths.All(four, 0, 8); e != api.ErrLimit || l != nil {
		t.Error(len(l), e)
	}
}

func TestGraphs(t *testing.T) { // P20.2, P20.3
	for seed := range 300 {
		d := sample.New(seed)
		s := d.System(1+d.Below(3), 1+d.Below(4), 1+d.Below(4), d.Below(6))
		want, _, _ := least.Solve(s)
		v, most := d.Below(s.Nodes), d.Below(5)
		l, e := paths.All(s, v, most)
		if e != api.OK {
			t.Fatal(e)
		}
		if !slices.IsSortedFunc(l, func(a, b []int) int { return cmp.Or(len(a)-len(b), slices.Compare(a, b)) }) {
			t.Fatal(l)
		}
		meet := lattice.Bottom(s.What, s.Width)
		for i, way := range l {
			if way[len(way)-1] != v || len(way) > most+1 || !paths.Is(s, way) || i > 0 && slices.Equal(way, l[i-1]) {
				t.Fatal(l)
			}
			a, _ := paths.Along(s, way)
			if !lattice.Below(s.What, s.Width, a, want[v]) {
				t.Fatal(seed, way, a)
			}
			meet, _ = lattice.Join(s.What, s.Width, meet, a)
		}
		count := 0
		var walk func(u, left int)
		walk = func(u, left int) {
			count++
			for _, w := range slices.Compact(slices.SortedFunc(slices.Values(s.Edges), func(a, b api.Edge) int { return cmp.Or(a.From-b.From, a.To-b.To) })) {
				if w.To == u && left > 0 {
					walk(w.From, left-1)
				}
			}
		}
		if walk(v, most); count != len(l) {
			t.Fatal(seed, count, len(l))
		}
		if got, _ := paths.Meet(s, v, most); !slices.Equal(got, meet) {
			t.Fatal(seed, got, meet)
		}
		starts := make([][]uint64, s.Nodes)
		for u := range starts {
			starts[u], _ = system.Start(s, u)
		}
		for range most {
			starts, _ = system.Step(s, starts)
		}
		if s.What != api.Flat && !slices.Equal(starts[v], meet) {
			t.Fatal(seed, starts[v], meet)
		}
	}
}
