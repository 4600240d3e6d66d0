package fold_test

import (
	"slices"
	"testing"

	"sough/api"
	"sough/constant"
	"sough/exec"
	"sough/fold"
	"sough/gauss"
	"sough/grammar"
	"sough/printer"
	"sough/prop"
	"sough/proper"
	"sough/sample"
	"sough/tables"
	"sough/trips"
)

func parse(t *testing.T, s string) api.Program {
	p, f := grammar.Parse(s)
	if f.E != api.OK {
		t.Fatal(s, f)
	}
	return p
}

func v(s string) api.Atom   { return api.Atom{Var: s} }
func n(re, im int) api.Atom { return api.Atom{N: api.Num{Re: re, Im: im}} }

func TestParts(t *testing.T) { // P45.1
	p := parse(t, "block a { x = y; out z; ret; }")
	known := []uint64{constant.Of(api.Num{Re: 5, Im: 1}), constant.Any, constant.Of(api.Num{Re: 2})}
	for i, c := range []struct {
		known   []uint64
		a, want api.Atom
	}{{known, v("x"), n(5, 1)}, {known, v("y"), v("y")}, {known, v("z"), n(2, 0)}, {known[:2], v("z"), v("z")}, {nil, v("x"), v("x")}, {known, v("q"), v("q")}, {known, n(70000, 0), n(70000, 0)}, {known, v(""), v("")},
		{[]uint64{0, 3, 6}, v("x"), v("x")}, {[]uint64{0, 3, 6}, v("y"), v("y")}, {known, api.Atom{Var: "x", N: api.Num{Re: 9}}, n(5, 1)}} {
		if got := fold.Atom(p, c.known, c.a); got != c.want {
			t.Error(i, got)
		}
	}
	for i, c := range []struct{ x, want api.Expr }{
		{api.Expr{A: v("x")}, api.Expr{A: n(5, 1)}},
		{api.Expr{A: v("x"), B: v("y")}, api.Expr{A: n(5, 1)}},
		{api.Expr{A: v("y")}, api.Expr{A: v("y")}},
		{api.Expr{Op: api.OpConj, A: v("x")}, api.Expr{A: n(5, -1)}},
		{api.Expr{Op: api.OpConj, A: v("y"), B: v("x")}, api.Expr{Op: api.OpConj, A: v("y"), B: v("x")}},
		{api.Expr{Op: api.OpAdd, A: v("x"), B: v("z")}, api.Expr{A: n(7, 1)}},
		{api.Expr{Op: api.OpSub, A: v("x"), B: v("y")}, api.Expr{Op: api.OpSub, A: n(5, 1), B: v("y")}},
		{api.Expr{Op: api.OpMul, A: v("y"), B: v("z")}, api.Expr{Op: api.OpMul, A: v("y"), B: n(2, 0)}},
		{api.Expr{Op: api.OpMul, A: n(65537, 0), B: v("z")}, api.Expr{A: n(2, 0)}},
		{api.Expr{A: n(32768, 0)}, api.Expr{A: n(-32768, 0)}},
		{api.Expr{Op: 5, A: v("x"), B: v("z")}, api.Expr{Op: 5, A: v("x"), B: v("z")}},
		{api.Expr{Op: -1, A: n(1, 1)}, api.Expr{Op: -1, A: n(1, 1)}},
	} {
		if got := fold.Expr(p, known, c.x); got != c.want {
			t.Error(i, got)
		}
	}
	if got := fold.Atom(api.Program{}, known, v("x")); got != v("x") {
		t.Error(got)
	}
}

func TestProgram(t *testing.T) { // P45.2
	for in, want := range map[string]string{
		"block a { x = 2; y = x + 1; out y; in x; z = x * y; if y then a else b; } block b { if x then a else b; }": "block a { x = 2; y = 3; out 3; in x; z = x * 3; if 3 then a else b; } block b { if x then a else b; }",
		"block a { out q; ret; } block b { x = 1; y = x; out 1; if x then a else b; }":                              "block a { out 0; ret; } block b { x = 1; y = x; out 1; if x then a else b; }",
		"block a { x = 2 * 3; x = x - 1; x = conj x; out x; ret; }":                                                 "block a { x = 6; x = 5; x = 5; out 5; ret; }",
		"block a { goto b; } block b { x = x + 0; out x; goto b; }":                                                 "block a { goto b; } block b { x = 0; out 0; goto b; }",
	} {
		p := parse(t, in)
		kept := proper.Clone(p)
		q, e := fold.Program(p)
		s, _ := printer.Program(q)
		if e != api.OK || !proper.Same(q, parse(t, want)) || !proper.Same(p, kept) {
			t.Error(in, s, e)
		}
	}
	if k, e := fold.Count(parse(t, "block a { x = 2; y = x + 1; out y; in x; z = x * y; if y then a else b; } block b { if x then a else b; }")); k != 4 || e != api.OK {
		t.Error(k, e)
	}
	for _, p := range []api.Program{{}, {L: []api.Block{{Name: "a", T: api.Term{Kind: 8}}}}} {
		q, e := fold.Program(p)
		k, e2 := fold.Count(p)
		if want := proper.Check(p); e != want || e2 != want || len(q.L) != 0 || k != 0 {
			t.Error(e, e2)
		}
	}
}

// slowly is the promise's own words.
func slowly(p api.Program) api.Program {
	q := proper.Clone(p)
	begins, _, _ := prop.Sets(p)
	for b := range p.L {
		if slices.Contains(begins[b], constant.Never) {
			continue
		}
		for i, s := range p.L[b].L {
			known, _ := prop.At(p, b, i)
			if s.Kind != api.StIn {
				q.L[b].L[i].E = fold.Expr(p, known, s.E)
			}
		}
		known, _ := prop.At(p, b, len(p.L[b].L))
		if p.L[b].T.Kind == api.EndIf {
			q.L[b].T.If = fold.Atom(p, known, p.L[b].T.If)
		}
	}
	return q
}

func TestSame(t *testing.T) { // P45.3
	folded := 0
	for seed := range 400 {
		d := sample.New(seed)
		p := d.Program(1+d.Below(5), 6, 1+d.Below(4))
		q, e := fold.Program(p)
		if e != api.OK || proper.Check(q) != api.OK || !proper.Same(q, slowly(p)) {
			t.Fatal(seed, e, q)
		}
		again, _ := fold.Program(q)
		if k, _ := fold.Count(q); k != 0 || !proper.Same(again, q) {
			t.Fatal(seed, "again", k)
		}
		k, _ := fold.Count(p)
		folded += k
		for range 3 {
			in := d.Nums(5)
			a, _ := exec.All(p, in, 20)
			b, _ := exec.All(q, in, 20)
			if !slices.Equal(a.Out, b.Out) || a.Ended != b.Ended || !slices.Equal(trips.Blocks(a), trips.Blocks(b)) {
				t.Fatal(seed, a.Out, b.Out)
			}
			for k := range a.Visits {
				for i, v := range proper.Vars(q) {
					if j, is := tables.Var(p, v); !is || a.Visits[k].E[j] != b.Visits[k].E[i] || !gauss.Is(a.Visits[k].E[j]) {
						t.Fatal(seed, k, v)
					}
				}
			}
		}
	}
	if folded < 300 {
		t.Error(folded)
	}
}
