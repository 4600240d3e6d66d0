package live_test

import (
	"slices"
	"testing"

	"sough/api"
	"sough/exec"
	"sough/flow"
	"sough/grammar"
	"sough/live"
	"sough/proper"
	"sough/sample"
	"sough/system"
	"sough/wordset"
)

func parse(t *testing.T, s string) api.Program {
	p, f := grammar.Parse(s)
	if f.E != api.OK {
		t.Fatal(f)
	}
	return p
}

func TestUses(t *testing.T) { // P38.1
	v := func(s string) api.Atom { return api.Atom{Var: s} }
	for i, c := range []struct {
		s    api.Stmt
		want []string
	}{
		{api.Stmt{Kind: api.StSet, Var: "z", E: api.Expr{Op: api.OpAdd, A: v("y"), B: v("x")}}, []string{"x", "y"}},
		{api.Stmt{Kind: api.StSet, Var: "z", E: api.Expr{Op: api.OpAdd, A: v("y"), B: v("y")}}, []string{"y"}},
		{api.Stmt{Kind: api.StSet, E: api.Expr{Op: api.OpConj, A: v("y"), B: v("x")}}, []string{"y"}},
		{api.Stmt{Kind: api.StSet, E: api.Expr{Op: api.OpMul, B: v("x")}}, []string{"x"}},
		{api.Stmt{Kind: api.StSet, E: api.Expr{Op: 7, A: v("y"), B: v("x")}}, nil},
		{api.Stmt{Kind: api.StSet, Var: "z"}, nil},
		{api.Stmt{Kind: api.StOut, E: api.Expr{Op: 7, A: v("y"), B: v("x")}}, []string{"y"}},
		{api.Stmt{Kind: api.StOut}, nil},
		{api.Stmt{Kind: api.StIn, Var: "z", E: api.Expr{A: v("y")}}, nil},
		{api.Stmt{Kind: 9, E: api.Expr{A: v("y")}}, nil},
	} {
		if got := live.Uses(c.s); !slices.Equal(got, c.want) || c.want == nil && got != nil {
			t.Error(i, got)
		}
	}
}

func TestSystem(t *testing.T) { // P38.1
	p := parse(t, "block a { y = x; x = x + z; in z; if w then b else a; } block b { out y; w = 1; if w then c else b; } block c { ret; } block d { ret; }")
	s, e := live.System(p) // w x y z
	if e != api.OK || s.What != api.May || s.Width != 4 || s.Nodes != 4 || !slices.Equal(s.Edges, flow.Reverse(flow.Edges(p))) || !slices.Equal(s.Entry, []int{2, 3}) || !slices.Equal(s.Init, []uint64{0}) || system.Check(s) != api.OK {
		t.Error(s, e)
	}
	for b, want := range [][2][]int{{{0, 1, 3}, {1, 2, 3}}, {{2}, {0}}, {nil, nil}, {nil, nil}} {
		if !slices.Equal(wordset.List(s.T[b].Gen), want[0]) || !slices.Equal(wordset.List(s.T[b].Kill), want[1]) {
			t.Error(b, s.T[b])
		}
	}
	for _, p := range []api.Program{{}, {L: []api.Block{{Name: "a", T: api.Term{Kind: api.EndGoto, To: "b"}}}}} {
		want := proper.Check(p)
		s, e := live.System(p)
		b, n, e2 := live.Sets(p)
		if want == api.OK || e != want || e2 != want || s.Nodes != 0 || b != nil || n != nil || live.Is(p, 0, "x") {
			t.Error(e, e2)
		}
	}
	if s, e := live.System(parse(t, "block a { ret; }")); e != api.OK || s.Width != 0 || system.Check(s) != api.OK {
		t.Error(s, e)
	}
}

func TestSets(t *testing.T) { // P38.2
	p := parse(t, "block a { in n; goto b; } block b { m = n * 2; n = n - 1; if n then b else c; } block c { out m; ret; }")
	b, e, err := live.Sets(p)
	want := [][][]string{{nil, {"n"}, {"m"}}, {{"n"}, {"m", "n"}, nil}}
	for i := range 3 {
		if err != api.OK || !slices.Equal(b[i], want[0][i]) || !slices.Equal(e[i], want[1][i]) {
			t.Error(i, b, e)
		}
	}
	for _, c := range []struct {
		block int
		v     string
		want  bool
	}{{0, "n", true}, {0, "m", false}, {1, "m", true}, {2, "m", false}, {-1, "n", false}, {3, "n", false}, {1, "q", false}, {1, "", false}} {
		if live.Is(p, c.block, c.v) != c.want {
			t.Error(c)
		}
	}
}

func TestTrue(t *testing.T) { // P38.3
	dead := 0
	for seed := range 300 {
		d := sample.New(seed)
		p := d.Program(1+d.Below(5), 6, 1+d.Below(4))
		in := d.Nums(5)
		r, _ := exec.All(p, in, 12)
		vars := proper.Vars(p)
		_, ends, _ := live.Sets(p)
		for k, s := range r.Visits[1:] {
			from := r.Visits[k].Block
			want, _ := exec.From(p, s, in, 10)
			for i, v := range vars {
				if slices.Contains(ends[from], v) {
					continue
				}
				dead++
				other := s
				other.E = slices.Clone(s.E)
				other.E[i] = d.Num()
				if got, _ := exec.From(p, other, in, 10); !slices.Equal(got.Out, want.Out) || got.Ended != want.Ended {
					t.Fatal(seed, k, v)
				}
			}
		}
	}
	if dead < 100 {
		t.Error(dead)
	}
}
