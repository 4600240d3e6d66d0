package trips_test

import (
	"reflect"
	"slices"
	"testing"

	"sough/api"
	"sough/exec"
	"sough/grammar"
	"sough/proper"
	"sough/sample"
	"sough/tables"
	"sough/trips"
)

func parse(t *testing.T, s string) api.Program {
	p, f := grammar.Parse(s)
	if f.E != api.OK {
		t.Fatal(f)
	}
	return p
}

// Sites: x@start 0, y@start 1, x@a.0 2, y@a.1 3, x@b.0 4, y@b.1 5.
const text = "block a { in x; y = x * 2; goto b; } block b { x = x - 1; y = x * 2; out x; if x then b else c; } block c { ret; }"

func TestLast(t *testing.T) { // P9.1
	p := parse(t, text)
	l, e := trips.Last(p, []api.Num{{Re: 2}}, 10)
	if want := [][]int{{0, 1}, {2, 3}, {4, 5}, {4, 5}}; e != api.OK || !reflect.DeepEqual(l, want) {
		t.Error(l, e)
	}
	l, e = trips.Last(p, []api.Num{{Re: 2}}, 1)
	if want := [][]int{{0, 1}}; e != api.OK || !reflect.DeepEqual(l, want) {
		t.Error(l, e)
	}
	l, e = trips.Last(parse(t, "block a { if x then a else b; } block b { goto a; }"), nil, 4)
	if want := [][]int{{0}, {0}, {0}, {0}}; e != api.OK || !reflect.DeepEqual(l, want) {
		t.Error(l, e)
	}
	if l, e := trips.Last(p, nil, 0); len(l) != 0 || e != api.OK {
		t.Error(l, e)
	}
	if l, e := trips.Last(api.Program{}, nil, 9); l != nil || e != api.ErrLimit {
		t.Error(l, e)
	}
	if l, e := trips.Known(api.Program{L: []api.Block{{Name: "if"}}}, nil, 9); l != nil || e != api.ErrForm {
		t.Error(l, e)
	}
}

func TestLong(t *testing.T) { // P9.1: what is put out is much more than what is told
	p := api.Program{L: []api.Block{{Name: "a", L: make([]api.Stmt, api.MaxStmts), T: api.Term{Kind: api.EndGoto, To: "a"}}}}
	for i := range p.L[0].L {
		p.L[0].L[i] = api.Stmt{Kind: api.StOut}
	}
	p.L[0].L[0] = api.Stmt{Kind: api.StIn, Var: "x"}
	l, e := trips.Last(p, nil, 1<<40)
	k, e2 := trips.Known(p, nil, 1<<40)
	if e != api.OK || e2 != api.OK || len(l) != api.MaxTrips || len(k) != api.MaxTrips || l[0][0] != 0 || l[1][0] != 1 || l[4095][0] != 1 {
		t.Error(len(l), len(k), e, e2)
	}
	for seed := range 40 {
		d := sample.New(seed)
		p := d.Program(1+d.Below(4), 5, 2)
		for _, most := range []int{-1, 0, 1, 15, 16, 17, 32, 33, 100} {
			r, _ := exec.All(p, nil, most)
			l, _ := trips.Last(p, nil, most)
			if len(l) != len(r.Visits) {
				t.Fatal(seed, most, len(l), len(r.Visits))
			}
		}
	}
}

func TestKnown(t *testing.T) { // P9.1
	// exprs: x * 2 is 0, x - 1 is 1.
	for s, want := range map[string][][]int{
		text: {nil, {0}, {0}, {0}},
		"block a { y = x + 1; x = y * 2; goto b; } block b { in y; goto c; } block c { ret; }":                                  {nil, {1}, nil},
		"block a { y = y + 1; goto b; } block b { z = y + 1; goto c; } block c { y = conj y; z = 1; goto d; } block d { ret; }": {nil, nil, {0}, nil},
		"block a { z = x + x; out x; x = 5; z = x + x; goto b; } block b { x = x; goto c; } block c { ret; }":                   {nil, {0}, nil},
	} {
		p := parse(t, s)
		l, e := trips.Known(p, []api.Num{{Re: 2}}, 10)
		if e != api.OK || len(l) != len(want) {
			t.Fatal(s, l, e)
		}
		for i := range l {
			if !slices.Equal(l[i], want[i]) {
				t.Error(s, l)
			}
		}
	}
}

func TestBlocks(t *testing.T) { // P9.2
	r, _ := exec.All(parse(t, text), []api.Num{{Re: 2}}, 10)
	if l := trips.Blocks(r); !slices.Equal(l, []int{0, 1, 1, 2}) {
		t.Error(l)
	}
	if l := trips.Blocks(exec.Run{Visits: []exec.State{{Block: -7}, {Block: 99}}}); !slices.Equal(l, []int{-7, 99}) {
		t.Error(l)
	}
	if len(trips.Blocks(exec.Run{})) != 0 {
		t.Error("none")
	}
}

// follow goes along a run statement by statement, and tells at each visit what
// each expression came to when it was reckoned last, and each variable's site.
func follow(p api.Program, in []api.Num, most int, see func(i int, e exec.Env, had map[api.Expr]api.Num, site map[string]tables.Site)) {
	s := exec.Start(p)
	had, site := map[api.Expr]api.Num{}, map[string]tables.Site{}
	for _, v := range proper.Vars(p) {
		site[v] = tables.Site{Block: -1, Var: v}
	}
	for i := range most {
		see(i, s.E, had, site)
		for k, st := range p.L[s.Block].L {
			one := api.Program{L: []api.Block{{Name: "one", T: api.Term{Kind: api.EndRet}}}}
			for _, v := range proper.Vars(p) {
				one.L[0].L = append(one.L[0].L, api.Stmt{Kind: api.StSet, Var: v, E: api.Expr{A: api.Atom{Var: v}}})
			}
			one.L[0].L = append(one.L[0].L, st)
			if st.Kind == api.StSet {
				had[st.E], _ = exec.Eval(p, s.E, st.E)
			}
			if st.Kind != api.StOut {
				site[st.Var] = tables.Site{Block: s.Block, Stmt: k, Var: st.Var}
			}
			next, _ := exec.Block(one, exec.State{E: s.E, In: s.In}, in)
			s.E, s.In = next.E, next.In
		}
		next, on, _ := exec.Go(p, s)
		if s = next; !on {
			return
		}
	}
}

func TestAlong(t *testing.T) { // P9.3, P9.1
	for seed := range 200 {
		d := sample.New(seed)
		p := d.Program(1+d.Below(4), 7, 1+d.Below(3))
		in := d.Nums(4)
		known, _ := trips.Known(p, in, 20)
		last, _ := trips.Last(p, in, 20)
		exprs, sites := tables.Exprs(p), tables.Sites(p)
		seen := 0
		follow(p, in, 20, func(i int, e exec.Env, had map[api.Expr]api.Num, site map[string]tables.Site) {
			seen++
			for _, k := range known[i] {
				if n, _ := exec.Eval(p, e, exprs[k]); n != had[exprs[k]] {
					t.Fatal(seed, i, exprs[k], n, had[exprs[k]])
				}
			}
			for k, v := range proper.Vars(p) {
				if sites[last[i][k]] != site[v] {
					t.Fatal(seed, i, v)
				}
			}
		})
		if seen != len(known) || seen != len(last) {
			t.Fatal(seed, seen, len(known))
		}
	}
}
