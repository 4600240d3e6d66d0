package order_test

import (
	"slices"
	"testing"

	"sough/api"
	"sough/flow"
	"sough/order"
	"sough/sample"
	"sough/scc"
)

func edges(l ...int) []api.Edge {
	var out []api.Edge
	for i := 0; i < len(l); i += 2 {
		out = append(out, api.Edge{From: l[i], To: l[i+1]})
	}
	return out
}

func TestPost(t *testing.T) { // P14.1, P14.2
	for i, c := range []struct {
		n                int
		l                []api.Edge
		from             []int
		post, ranks, all []int
	}{
		{3, edges(0, 1, 1, 2), []int{0}, []int{2, 1, 0}, []int{0, 1, 2}, []int{0, 1, 2}},
		{3, edges(0, 1, 1, 2), nil, []int{2, 1, 0}, []int{0, 1, 2}, []int{0, 1, 2}},
		{3, edges(0, 1, 1, 2), []int{1, 1}, []int{2, 1, 0}, []int{0, 1, 2}, []int{0, 1, 2}},
		{3, nil, []int{2, 0}, []int{2, 0, 1}, []int{1, 0, 2}, []int{0, 1, 2}},
		{4, edges(0, 2, 0, 1, 1, 3, 2, 3), []int{0}, []int{3, 1, 2, 0}, []int{0, 2, 1, 3}, []int{0, 1, 2, 3}},
		{4, edges(0, 1, 1, 2, 2, 0, 3, 2), []int{2}, []int{1, 0, 2, 3}, []int{2, 3, 1, 0}, []int{3, 2, 0, 1}},
	} {
		p, e := order.Post(c.n, c.l, c.from)
		r, e2 := order.Ranks(c.n, c.l, c.from)
		a, e3 := order.All(c.n, c.l, c.from)
		if e != api.OK || e2 != api.OK || e3 != api.OK || !slices.Equal(p, c.post) || !slices.Equal(r, c.ranks) || !slices.Equal(a, c.all) {
			t.Error(i, p, r, a)
		}
	}
	for i, c := range []struct {
		n    int
		l    []api.Edge
		from []int
		want api.Errno
	}{{0, nil, []int{5}, api.ErrArg}, {2, edges(0, 2), []int{5}, api.ErrArg}, {2, edges(0, 1), []int{0, 2}, api.ErrDomain}, {2, nil, []int{-1}, api.ErrDomain}, {257, nil, nil, api.ErrArg}} {
		p, e := order.Post(c.n, c.l, c.from)
		r, e2 := order.Ranks(c.n, c.l, c.from)
		a, e3 := order.All(c.n, c.l, c.from)
		if e != c.want || e2 != c.want || e3 != c.want || p != nil || r != nil || a != nil {
			t.Error(i, e, e2, e3)
		}
	}
}

func TestIs(t *testing.T) { // P14.2
	for i, c := range []struct {
		n    int
		p    []int
		want bool
	}{{0, nil, true}, {-1, nil, false}, {3, []int{2, 0, 1}, true}, {3, []int{2, 0}, false}, {3, []int{2, 0, 2}, false}, {3, []int{3, 0, 1}, false}, {3, []int{-1, 0, 1}, false}, {1 << 62, []int{0}, false}, {2, []int{0, 1, 1}, false}} {
		if order.Is(c.n, c.p) != c.want {
			t.Error(i)
		}
	}
}

// visit is the promise's own words.
func visit(n int, l []api.Edge, v int, met map[int]int, tell *[]int) {
	if met[v] > 0 {
		return
	}
	met[v] = 1
	for _, u := range flow.Next(n, l, v) {
		visit(n, l, u, met, tell)
	}
	*tell = append(*tell, v)
}

func TestGraphs(t *testing.T) { // P14.1, P14.3
	for seed := range 300 {
		d := sample.New(seed)
		n := 1 + d.Below(9)
		l := d.Edges(n, d.Below(2*n))
		from := []int{d.Below(n), d.Below(n)}
		var want []int
		met := map[int]int{}
		for _, v := range append(from, []int{0, 1, 2, 3, 4, 5, 6, 7, 8}[:n]...) {
			visit(n, l, v, met, &want)
		}
		p, _ := order.Post(n, l, from)
		if !slices.Equal(p, want) || !order.Is(n, p) {
			t.Fatal(l, p, want)
		}
		r, _ := order.Ranks(n, l, from)
		a, _ := order.All(n, l, from)
		which, _ := scc.Which(n, l)
		for _, e := range l {
			if !scc.Round(n, l) && r[e.From] >= r[e.To] {
				t.Fatal(l, r)
			}
			if which[e.From] != which[e.To] && slices.Index(a, e.From) >= slices.Index(a, e.To) {
				t.Fatal(l, a)
			}
		}
		for i := 1; i < n; i++ {
			if which[a[i-1]] == which[a[i]] && r[a[i-1]] >= r[a[i]] || which[a[i-1]] > which[a[i]] {
				t.Fatal(l, a)
			}
		}
	}
}
