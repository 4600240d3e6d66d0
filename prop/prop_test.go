package prop_test

import (
	"slices"
	"testing"

	"sough/api"
	"sough/constant"
	"sough/exec"
	"sough/flow"
	"sough/grammar"
	"sough/prop"
	"sough/proper"
	"sough/sample"
	"sough/system"
	"sough/transfer"
	"sough/trips"
)

func parse(t *testing.T, s string) api.Program {
	p, f := grammar.Parse(s)
	if f.E != api.OK {
		t.Fatal(f)
	}
	return p
}

func num(re int) uint64 { return constant.Of(api.Num{Re: re}) }

const text = "block a { x = 2 * 3; in y; z = conj x; if y then b else c; } block b { x = 7; goto d; } block c { z = z + 1; goto d; } block d { out x; goto d; } block e { x = 1; goto d; }"

func TestCodes(t *testing.T) { // P41.1
	p := parse(t, text) // x y z
	v := func(s string) api.Atom { return api.Atom{Var: s} }
	l := []api.Stmt{
		{Kind: api.StSet, Var: "z", E: api.Expr{Op: api.OpSub, A: v("y"), B: api.Atom{N: api.Num{Re: 32768}}}},
		{Kind: api.StIn, Var: "y", E: api.Expr{Op: 3, A: v("x")}},
		{Kind: api.StOut, Var: "x", E: api.Expr{A: v("x")}},
		{Kind: api.StSet, Var: "q", E: api.Expr{A: v("x")}},
		{Kind: api.StIn, Var: ""},
		{Kind: 9, Var: "x"},
		{Kind: api.StSet, Var: "x", E: api.Expr{Op: 77, A: api.Atom{Var: "q", N: api.Num{Im: 65537}}, B: api.Atom{Var: "x", N: api.Num{Re: 3}}}},
	}
	want := []api.Code{
		{Var: 2, Op: api.OpSub, A: api.Ref{Var: 1}, B: api.Ref{Var: -1, N: api.Num{Re: -32768}}},
		{Var: 1, Op: -1},
		{Var: 0, Op: 77, A: api.Ref{Var: -1, N: api.Num{Im: 1}}, B: api.Ref{}},
	}
	if got := prop.Codes(p, l); !slices.Equal(got, want) {
		t.Error(got)
	}
	if len(prop.Codes(p, nil)) != 0 || len(prop.Codes(api.Program{}, l)) != 0 {
		t.Error("none")
	}
	s, e := prop.System(p)
	if e != api.OK || s.What != api.Flat || s.Width != 3 || s.Nodes != 5 || !slices.Equal(s.Edges, flow.Edges(p)) || !slices.Equal(s.Entry, []int{0}) || !slices.Equal(s.Init, []uint64{2, 2, 2}) || system.Check(s) != api.OK {
		t.Error(s, e)
	}
	for b := range p.L {
		if !transfer.Same(s.T[b], api.Trans{L: prop.Codes(p, p.L[b].L)}) {
			t.Error(b, s.T[b])
		}
	}
	for _, p := range []api.Program{{}, {L: []api.Block{{Name: "a", T: api.Term{Kind: 8}}}}} {
		want := proper.Check(p)
		s, e := prop.System(p)
		b, n, e2 := prop.Sets(p)
		a, e3 := prop.At(p, -1, 0)
		if want == api.OK || e != want || e2 != want || e3 != want || s.Nodes != 0 || b != nil || n != nil || a != nil {
			t.Error(e, e2, e3)
		}
	}
}

func TestSets(t *testing.T) { // P41.2
	p := parse(t, text)
	b, n, e := prop.Sets(p)
	want := [][][]uint64{{{2, 2, 2}, {num(6), 1, num(6)}, {num(6), 1, num(6)}, {1, 1, 1}, {0, 0, 0}}, {{num(6), 1, num(6)}, {num(7), 1, num(6)}, {num(6), 1, num(7)}, {1, 1, 1}, {0, 0, 0}}}
	for i := range 5 {
		if e != api.OK || !slices.Equal(b[i], want[0][i]) || !slices.Equal(n[i], want[1][i]) {
			t.Error(i, b, n)
		}
	}
	for i, c := range []struct {
		block, stmt int
		want        []uint64
		e           api.Errno
	}{{0, 0, []uint64{2, 2, 2}, 0}, {0, 1, []uint64{num(6), 2, 2}, 0}, {0, 2, []uint64{num(6), 1, 2}, 0}, {0, 3, []uint64{num(6), 1, num(6)}, 0}, {4, 1, []uint64{0, 0, 0}, 0}, {3, 1, []uint64{1, 1, 1}, 0},
		{0, 4, nil, api.ErrArg}, {0, -1, nil, api.ErrArg}, {-1, 0, nil, api.ErrArg}, {5, 0, nil, api.ErrArg}} {
		if got, e := prop.At(p, c.block, c.stmt); !slices.Equal(got, c.want) || e != c.e {
			t.Error(i, got, e)
		}
	}
}

func TestTrue(t *testing.T) { // P41.3
	some := 0
	for seed := range 400 {
		d := sample.New(seed)
		p := d.Program(1+d.Below(5), 6, 1+d.Below(4))
		in := d.Nums(5)
		r, _ := exec.All(p, in, 20)
		begins, ends, _ := prop.Sets(p)
		for k, b := range trips.Blocks(r) {
			for v, w := range begins[b] {
				if n, is := constant.Num(w); is && r.Visits[k].E[v] != n || w == constant.Never {
					t.Fatal(seed, k, v, w, r.Visits[k].E)
				} else if is {
					some++
				}
			}
		}
		for b := range p.L {
			if a, e := prop.At(p, b, len(p.L[b].L)); e != api.OK || !slices.Equal(a, ends[b]) {
				t.Fatal(seed, b, a)
			}
		}
	}
	if some < 100 {
		t.Error(some)
	}
}
