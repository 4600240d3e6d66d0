package tables_test

import (
	"slices"
	"testing"

	"sough/api"
	"sough/grammar"
	"sough/proper"
	"sough/sample"
	"sough/tables"
)

func parse(t *testing.T, s string) api.Program {
	p, f := grammar.Parse(s)
	if f.E != api.OK {
		t.Fatal(f)
	}
	return p
}

const text = `block a { in y; x = y * 2; out x; z = x; goto b; }
block b { x = y * 2; x = 2 * y; y = 2 + 3; w = conj x; w = conj 3; z = 5; z = x - x; if q then a else b; }`

func TestPlaces(t *testing.T) { // P6.1
	p := parse(t, text)
	for name, want := range map[string]int{"q": 0, "w": 1, "x": 2, "y": 3, "z": 4} {
		if i, is := tables.Var(p, name); i != want || !is {
			t.Error(name, i, is)
		}
	}
	for _, name := range []string{"", "a", "zz", "qq"} {
		if i, is := tables.Var(p, name); i != 0 || is {
			t.Error(name, i, is)
		}
	}
	for name, want := range map[string]int{"a": 0, "b": 1} {
		if i, is := tables.Block(p, name); i != want || !is {
			t.Error(name, i, is)
		}
	}
	if i, is := tables.Block(p, "x"); i != 0 || is {
		t.Error(i, is)
	}
	twice := api.Program{L: []api.Block{{Name: "a"}, {Name: "b"}, {Name: "b"}, {Name: ""}}}
	if i, is := tables.Block(twice, "b"); i != 1 || !is {
		t.Error(i, is)
	}
	if i, is := tables.Block(api.Program{}, "b"); i != 0 || is {
		t.Error(i, is)
	}
}

func TestSites(t *testing.T) { // P6.2
	p := parse(t, text)
	want := []tables.Site{{-1, 0, "q"}, {-1, 0, "w"}, {-1, 0, "x"}, {-1, 0, "y"}, {-1, 0, "z"}, {0, 0, "y"}, {0, 1, "x"}, {0, 3, "z"},
		{1, 0, "x"}, {1, 1, "x"}, {1, 2, "y"}, {1, 3, "w"}, {1, 4, "w"}, {1, 5, "z"}, {1, 6, "z"}}
	if l := tables.Sites(p); !slices.Equal(l, want) {
		t.Error(l)
	}
	if len(tables.Sites(api.Program{})) != 0 {
		t.Error("none")
	}
	for s, name := range map[tables.Site]string{{-1, 0, "q"}: "q@start", {-1, 7, "none"}: "none@start", {0, 1, "x"}: "x@a.1", {1, 6, "z"}: "z@b.6",
		{0, 2, "x"}: "", {0, 2, ""}: "", {0, 1, "y"}: "", {2, 0, "x"}: "", {-2, 0, "x"}: "", {0, -1, "x"}: "", {0, 4, "z"}: "", {1, 7, "z"}: ""} {
		if got := tables.SiteName(p, s); got != name {
			t.Errorf("%v: %q, want %q", s, got, name)
		}
	}
}

func TestExprs(t *testing.T) { // P6.3
	p := parse(t, text)
	v, n := api.Atom{Var: "y"}, api.Atom{N: api.Num{Re: 2}}
	x := api.Atom{Var: "x"}
	want := []api.Expr{{Op: api.OpMul, A: v, B: n}, {Op: api.OpMul, A: n, B: v}, {Op: api.OpConj, A: x}, {Op: api.OpSub, A: x, B: x}}
	if l := tables.Exprs(p); !slices.Equal(l, want) {
		t.Error(l)
	}
	odd := api.Program{L: []api.Block{{L: []api.Stmt{{Kind: api.StOut, E: want[0]}, {Kind: 9, E: want[0]}, {Kind: api.StSet, E: api.Expr{Op: 7, A: v}},
		{Kind: api.StSet, E: api.Expr{Op: api.OpConj, B: v}}, {Kind: api.StSet, E: api.Expr{A: v}}}}}}
	if l := tables.Exprs(odd); len(l) != 0 {
		t.Error(l)
	}
	if tables.ExprName(want[0]) != "y * 2" || tables.ExprName(want[2]) != "conj x" || tables.ExprName(api.Expr{Op: 9}) != "" {
		t.Error("names")
	}
}

func TestNames(t *testing.T) { // P6.4
	for seed := range 200 {
		p := sample.New(seed).Program(1+seed%5, 9, 1+seed%4)
		met := map[string]int{}
		for _, s := range tables.Sites(p) {
			name := tables.SiteName(p, s)
			met[name]++
			if name == "" || met[name] > 1 {
				t.Fatal(seed, s, name)
			}
		}
		for _, x := range tables.Exprs(p) {
			met[tables.ExprName(x)]++
			if met[tables.ExprName(x)] > 1 {
				t.Fatal(seed, x)
			}
		}
		if n := len(tables.Sites(p)); n < len(proper.Vars(p)) {
			t.Fatal(seed, n)
		}
	}
}
