package chain_test

import (
	"slices"
	"testing"

	"sough/api"
	"sough/chain"
	"sough/exec"
	"sough/grammar"
	"sough/proper"
	"sough/reach"
	"sough/sample"
	"sough/tables"
	"sough/trips"
)

func parse(t *testing.T, s string) api.Program {
	p, f := grammar.Parse(s)
	if f.E != api.OK {
		t.Fatal(s, f)
	}
	return p
}

// Sites: x@start 0, y@start 1, z@start 2, x@a.0 3, y@a.2 4, x@b.0 5, z@b.1 6.
const text = "block a { x = 1; out x; y = y + x; if x then a else b; } block b { in x; z = x * x; out y; if 1 then a else c; } block c { out 7; ret; }"

func TestUses(t *testing.T) { // P48.1
	want := []chain.Use{{0, 1, "x"}, {0, 2, "x"}, {0, 2, "y"}, {0, 3, "x"}, {1, 1, "x"}, {1, 2, "y"}}
	if l := chain.Uses(parse(t, text)); !slices.Equal(l, want) {
		t.Error(l)
	}
	odd := api.Program{L: []api.Block{{T: api.Term{Kind: api.EndRet, If: api.Atom{Var: "x"}}}, {L: []api.Stmt{{Kind: 9, E: api.Expr{A: api.Atom{Var: "x"}}}}, T: api.Term{Kind: api.EndIf, If: api.Atom{Var: "q"}}}}}
	if l := chain.Uses(odd); !slices.Equal(l, []chain.Use{{1, 1, "q"}}) || len(chain.Uses(api.Program{})) != 0 {
		t.Error(l)
	}
}

func equal(a, b [][]int) bool { return slices.EqualFunc(a, b, slices.Equal) }

func TestChains(t *testing.T) { // P48.2
	p := parse(t, text)
	from, e := chain.From(p)
	if want := [][]int{{3}, {3}, {1, 4}, {3}, {5}, {4}}; e != api.OK || !equal(from, want) {
		t.Error(from, e)
	}
	to, e := chain.To(p)
	if want := [][]int{nil, {2}, nil, {0, 1, 3}, {2, 5}, {4}, nil}; e != api.OK || !equal(to, want) {
		t.Error(to, e)
	}
	if l, e := chain.Unused(p); e != api.OK || !slices.Equal(l, []int{6}) {
		t.Error(l, e)
	}
	if l, e := chain.Fresh(p); e != api.OK || !slices.Equal(l, []int{2}) {
		t.Error(l, e)
	}
	for _, p := range []api.Program{{}, {L: []api.Block{{Name: "a", T: api.Term{Kind: 8}}}}} {
		a, e1 := chain.From(p)
		b, e2 := chain.To(p)
		c, e3 := chain.Unused(p)
		d, e4 := chain.Fresh(p)
		if want := proper.Check(p); e1 != want || e2 != want || e3 != want || e4 != want || a != nil || b != nil || c != nil || d != nil {
			t.Error(e1, e2, e3, e4)
		}
	}
}

func TestBothWays(t *testing.T) { // P48.3, P48.2
	for seed := range 250 {
		d := sample.New(seed)
		p := d.Program(1+d.Below(5), 6, 1+d.Below(4))
		from, _ := chain.From(p)
		to, _ := chain.To(p)
		unused, _ := chain.Unused(p)
		fresh, _ := chain.Fresh(p)
		uses, sites := chain.Uses(p), tables.Sites(p)
		if len(from) != len(uses) || len(to) != len(sites) {
			t.Fatal(seed)
		}
		for i, u := range uses {
			want, _ := reach.Of(p, u.Block, u.Stmt, u.Var)
			start := false
			for j := range sites {
				if slices.Contains(from[i], j) != slices.Contains(to[j], i) {
					t.Fatal(seed, i, j)
				}
				start = start || sites[j].Block < 0 && slices.Contains(from[i], j)
			}
			if !slices.Equal(from[i], want) || start != slices.Contains(fresh, i) {
				t.Fatal(seed, i, from[i], want)
			}
		}
		for j, s := range sites {
			if is := s.Block >= 0 && len(to[j]) == 0; is != slices.Contains(unused, j) || !slices.IsSorted(to[j]) {
				t.Fatal(seed, j)
			}
		}
		in := d.Nums(4)
		r, _ := exec.All(p, in, 15)
		last, _ := trips.Last(p, in, 15)
		vars := proper.Vars(p)
		for k, b := range trips.Blocks(r) {
			now := slices.Clone(last[k])
			for j := 0; j <= len(p.L[b].L); j++ {
				for i, u := range uses {
					if u.Block == b && u.Stmt == j && !slices.Contains(from[i], now[slices.Index(vars, u.Var)]) {
						t.Fatal(seed, k, u)
					}
				}
				if j < len(p.L[b].L) && p.L[b].L[j].Var != "" {
					v := p.L[b].L[j].Var
					now[slices.Index(vars, v)] = slices.Index(sites, tables.Site{Block: b, Stmt: j, Var: v})
				}
			}
		}
	}
}
