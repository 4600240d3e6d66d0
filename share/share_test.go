package share_test

import (
	"math"
	"slices"
	"testing"

	"sough/api"
	"sough/order"
	"sough/sample"
	"sough/scc"
	"sough/share"
)

func edges(l ...int) []api.Edge {
	var out []api.Edge
	for i := 0; i < len(l); i += 2 {
		out = append(out, api.Edge{From: l[i], To: l[i+1]})
	}
	return out
}

func TestOwners(t *testing.T) { // P15.1
	for i, c := range []struct {
		n       int
		l       []api.Edge
		workers int
		want    []int
		e       api.Errno
	}{
		{3, edges(0, 1), 1, []int{0, 0, 0}, 0},
		{4, nil, 2, []int{0, 0, 1, 1}, 0},
		{5, edges(0, 1, 1, 0, 1, 2, 2, 3, 3, 4), 3, []int{0, 0, 1, 1, 2}, 0},
		{5, edges(4, 3, 3, 2, 2, 1, 1, 0), 64, []int{51, 38, 25, 12, 0}, 0},
		{3, edges(0, 1, 1, 2, 2, 0), 3, []int{0, 0, 0}, 0},
		{3, nil, 0, nil, api.ErrArg}, {3, nil, 65, nil, api.ErrArg}, {0, nil, 1, nil, api.ErrArg}, {2, edges(0, 2), 1, nil, api.ErrArg},
	} {
		if got, e := share.Owners(c.n, c.l, c.workers); !slices.Equal(got, c.want) || e != c.e {
			t.Error(i, got, e)
		}
	}
}

func TestSeeds(t *testing.T) { // P15.2
	got, e := share.Seeds(5, edges(0, 1, 1, 0, 1, 2, 2, 3, 3, 4), []int{0}, 3)
	if e != api.OK || len(got) != 3 || !slices.Equal(got[0], []int{1, 0}) || !slices.Equal(got[1], []int{3, 2}) || !slices.Equal(got[2], []int{4}) {
		t.Error(got, e)
	}
	got, e = share.Seeds(2, nil, nil, 4)
	if e != api.OK || len(got) != 4 || !slices.Equal(got[0], []int{0}) || len(got[1]) != 0 || !slices.Equal(got[2], []int{1}) || len(got[3]) != 0 {
		t.Error(got, e)
	}
	for i, c := range []struct {
		n       int
		from    []int
		workers int
		want    api.Errno
	}{{0, []int{5}, 0, api.ErrArg}, {3, []int{3}, 65, api.ErrArg}, {3, []int{3}, 1, api.ErrDomain}, {3, []int{-1}, 64, api.ErrDomain}, {0, []int{5}, 1, api.ErrArg}} {
		if got, e := share.Seeds(c.n, nil, c.from, c.workers); got != nil || e != c.want {
			t.Error(i, got, e)
		}
	}
	for i, c := range []struct {
		owners  []int
		workers int
		want    []int
	}{{[]int{0, 2, 2, -1, 3}, 3, []int{1, 0, 2}}, {[]int{0}, 0, nil}, {[]int{0}, -5, nil}, {nil, 2, []int{0, 0}}} {
		if got := share.Loads(c.owners, c.workers); !slices.Equal(got, c.want) {
			t.Error(i, got)
		}
	}
	if got := share.Loads([]int{63, 64}, math.MaxInt); len(got) != 64 || got[63] != 1 {
		t.Error(got)
	}
}

func TestGraphs(t *testing.T) { // P15.3, P15.2
	for seed := range 300 {
		d := sample.New(seed)
		n, workers := 1+d.Below(12), 1+d.Below(7)
		l := d.Edges(n, d.Below(2*n))
		from := []int{d.Below(n)}
		owners, _ := share.Owners(n, l, workers)
		seeds, e := share.Seeds(n, l, from, workers)
		which, _ := scc.Which(n, l)
		all, _ := order.All(n, l, from)
		if e != api.OK || len(seeds) != workers {
			t.Fatal(e)
		}
		met := 0
		for w, s := range seeds {
			met += len(s)
			for i, v := range s {
				if owners[v] != w || i > 0 && slices.Index(all, v) > slices.Index(all, s[i-1]) {
					t.Fatal(l, seeds)
				}
			}
		}
		loads := share.Loads(owners, workers)
		for w := range loads {
			if loads[w] != len(seeds[w]) {
				t.Fatal(loads)
			}
		}
		for a := range n {
			for b := range n {
				if which[a] == which[b] && owners[a] != owners[b] || which[a] < which[b] && owners[a] > owners[b] {
					t.Fatal(l, owners)
				}
			}
		}
		if met != n {
			t.Fatal(seeds)
		}
	}
}
