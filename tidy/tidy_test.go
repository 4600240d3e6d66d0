package tidy_test

import (
	"math"
	"slices"
	"testing"

	"sough/api"
	"sough/exec"
	"sough/fold"
	"sough/grammar"
	"sough/printer"
	"sough/proper"
	"sough/prune"
	"sough/sample"
	"sough/sweep"
	"sough/tidy"
)

func parse(t *testing.T, s string) api.Program {
	p, f := grammar.Parse(s)
	if f.E != api.OK {
		t.Fatal(s, f)
	}
	return p
}

// long needs Once twice: what y is is known only when c is gone.
const long = "block a { x = 1; if x then b else c; } block b { y = 2; goto d; } block c { y = 3; goto d; } block d { out y; ret; }"

func TestProgram(t *testing.T) { // P49.1
	p := parse(t, "block a { x = 1; y = x; out y; ret; }")
	kept := proper.Clone(p)
	want := parse(t, "block a { out 1; ret; }")
	if q, e := tidy.Once(p); e != api.OK || !proper.Same(q, want) {
		t.Error(q, e)
	}
	if q, k, e := tidy.Program(p, 9); e != api.OK || !proper.Same(q, want) || k != 1 || !proper.Same(p, kept) {
		t.Error(q, k, e)
	}
	for _, most := range []int{0, -1, math.MinInt} {
		q, k, e := tidy.Program(p, most)
		if e != api.OK || !proper.Same(q, p) || k != 0 {
			t.Error(q, k, e)
		}
		if q.L[0].L[0].Var = "other"; !proper.Same(p, kept) {
			t.Fatal("shared")
		}
	}
	p = parse(t, long)
	one, _, _ := tidy.Program(p, 1)
	once, _ := tidy.Once(p)
	q, k, e := tidy.Program(p, math.MaxInt)
	if s, _ := printer.Program(q); e != api.OK || k != 2 || !proper.Same(one, once) || !proper.Same(q, parse(t, "block a { out 2; ret; }")) {
		t.Error(s, k, e)
	}
	for _, p := range []api.Program{{}, {L: []api.Block{{Name: "a", T: api.Term{Kind: 8}}}}} {
		q, e := tidy.Once(p)
		r, k, e2 := tidy.Program(p, 5)
		if want := proper.Check(p); e != want || e2 != want || len(q.L) != 0 || len(r.L) != 0 || k != 0 {
			t.Error(e, e2)
		}
	}
}

func TestWeight(t *testing.T) { // P49.2
	for s, want := range map[string]int{
		"block a { ret; }": 2,
		"block a { x = y + z; x = 1; x = conj y; in x; out x; if x then a else b; } block b { if 1 then a else b; }": 5 + 4 + 2 + 3 + 1,
	} {
		if got := tidy.Weight(parse(t, s)); got != want {
			t.Error(s, got)
		}
	}
	x := api.Atom{Var: "x"}
	odd := api.Program{L: []api.Block{{L: []api.Stmt{{Kind: api.StSet, E: api.Expr{Op: 9, A: x, B: x}}, {Kind: api.StSet, E: api.Expr{A: x, B: x}}, {Kind: 7, E: api.Expr{A: x}}}, T: api.Term{Kind: api.EndGoto, If: x}}}}
	if got := tidy.Weight(odd); got != 3+2+1 || tidy.Weight(api.Program{}) != 0 {
		t.Error(got)
	}
	light, heavy := parse(t, "block a { ret; }"), parse(t, "block a { in x; ret; }")
	if !tidy.Better(light, heavy) || tidy.Better(heavy, light) || !tidy.Better(light, light) || tidy.Better(light, odd) || tidy.Better(odd, heavy) || tidy.Better(api.Program{}, light) {
		t.Error("better")
	}
}

func TestSame(t *testing.T) { // P49.3, G6
	ended, more := 0, 0
	for seed := range 400 {
		d := sample.New(seed)
		p := d.Program(1+d.Below(7), 6, 1+d.Below(4))
		once, e := tidy.Once(p)
		q, _ := fold.Program(p)
		q, _ = prune.Program(q)
		q, _, _ = sweep.Whole(q)
		q, _ = prune.Merge(q)
		if e != api.OK || !proper.Same(once, q) || !tidy.Better(once, p) {
			t.Fatal(seed, e, tidy.Weight(once), tidy.Weight(p))
		}
		whole, k, _ := tidy.Program(p, 4096)
		if again, _ := tidy.Once(whole); !proper.Same(again, whole) || !tidy.Better(whole, once) || (k == 0) != proper.Same(p, whole) {
			t.Fatal(seed, k)
		}
		if k > 1 {
			more++
		}
		for range 3 {
			in := d.Nums(5)
			a, _ := exec.All(p, in, 40)
			b, _ := exec.All(whole, in, 40)
			if a.Ended {
				ended++
			}
			if a.Ended && (!b.Ended || !slices.Equal(a.Out, b.Out)) {
				t.Fatal(seed, a.Out, b.Out)
			}
		}
	}
	if ended < 300 || more == 0 {
		t.Error(ended, more)
	}
}
