package transfer_test

import (
	"slices"
	"testing"

	"sough/api"
	"sough/constant"
	"sough/lattice"
	"sough/sample"
	"sough/transfer"
	"sough/wordset"
)

func flat(l ...api.Code) api.Trans { return api.Trans{L: l} }

func num(re int) uint64 { return constant.Of(api.Num{Re: re}) }

func set(l ...int) []uint64 { return wordset.Of(5, l...) }

func TestCheck(t *testing.T) { // P16.1
	v, n := api.Ref{Var: 1}, api.Ref{Var: -1, N: api.Num{Re: 5}}
	may := api.Trans{Gen: set(1), Kill: set(1, 4)}
	for i, c := range []struct {
		what, width int
		t           api.Trans
		want        api.Errno
	}{
		{api.May, 5, may, api.OK}, {api.Must, 5, may, api.OK}, {api.May, 4, may, api.ErrDomain}, {api.May, 0, api.Trans{}, api.OK},
		{0, 5, may, api.ErrKind}, {api.May, -1, may, api.ErrKind}, {api.Must, 1025, may, api.ErrKind}, {4, 0, api.Trans{}, api.ErrKind}, {api.Flat, 1025, api.Trans{}, api.ErrKind},
		{api.May, 5, api.Trans{Gen: set(1)}, api.ErrDomain}, {api.Must, 5, api.Trans{Kill: set(1)}, api.ErrDomain},
		{api.May, 5, api.Trans{Gen: set(), Kill: []uint64{32}}, api.ErrDomain},
		{api.May, 5, api.Trans{Gen: set(), Kill: set(), L: []api.Code{{}}}, api.ErrDomain},
		{api.Flat, 2, api.Trans{}, api.OK}, {api.Flat, 0, api.Trans{}, api.OK},
		{api.Flat, 2, api.Trans{Gen: []uint64{0}}, api.ErrDomain}, {api.Flat, 2, api.Trans{Kill: []uint64{0}}, api.ErrDomain},
		{api.Flat, 2, flat(api.Code{Var: 1, Op: api.OpMul, A: v, B: n}), api.OK},
		{api.Flat, 2, flat(api.Code{Var: 1, Op: api.OpAtom, A: n, B: v}), api.OK},
		{api.Flat, 2, flat(api.Code{Var: 2, Op: api.OpMul, A: v, B: n}), api.ErrDomain},
		{api.Flat, 2, flat(api.Code{Var: -1, Op: api.OpMul, A: v, B: n}), api.ErrDomain},
		{api.Flat, 2, flat(api.Code{Op: 5, A: v, B: n}), api.ErrDomain},
		{api.Flat, 2, flat(api.Code{Op: -2}), api.ErrDomain},
		{api.Flat, 2, flat(api.Code{Op: -1}), api.OK}, {api.Flat, 0, flat(api.Code{Op: -1}), api.ErrDomain},
		{api.Flat, 2, flat(api.Code{Op: -1, A: v}), api.ErrDomain}, {api.Flat, 2, flat(api.Code{Op: -1, B: n}), api.ErrDomain}, {api.Flat, 2, flat(api.Code{Op: -1, B: api.Ref{Var: -1}}), api.ErrDomain},
		{api.Flat, 2, flat(api.Code{A: api.Ref{Var: 2}}), api.ErrDomain}, {api.Flat, 2, flat(api.Code{B: api.Ref{Var: 2}}), api.ErrDomain}, {api.Flat, 2, flat(api.Code{A: api.Ref{Var: -2}}), api.ErrDomain},
		{api.Flat, 2, flat(api.Code{A: api.Ref{Var: -1, N: api.Num{Im: 32768}}}), api.ErrDomain},
		{api.Flat, 2, flat(api.Code{A: api.Ref{Var: 0, N: api.Num{Re: 1}}}), api.ErrDomain},
		{api.Flat, 2, flat(api.Code{}, api.Code{Op: 9}), api.ErrDomain},
	} {
		if e := transfer.Check(c.what, c.width, c.t); e != c.want {
			t.Error(i, e)
		}
		if a, e := transfer.Apply(c.what, c.width, c.t, lattice.Bottom(c.what, c.width)); e != c.want || c.want != api.OK && a != nil {
			t.Error(i, a, e)
		}
		if x, e := transfer.Then(c.what, c.width, c.t, c.t); e != c.want || c.want != api.OK && !transfer.Same(x, api.Trans{}) {
			t.Error(i, x, e)
		}
	}
	if _, e := transfer.Then(api.May, 5, may, api.Trans{}); e != api.ErrDomain {
		t.Error(e)
	}
}

func TestApply(t *testing.T) { // P16.2
	for i, c := range []struct {
		what, width int
		t           api.Trans
		a, want     []uint64
		e           api.Errno
	}{
		{api.May, 5, api.Trans{Gen: set(1), Kill: set(2)}, set(2, 3), set(1, 3), 0},
		{api.Must, 5, api.Trans{Gen: set(1), Kill: set(1, 2)}, set(2, 3), set(1, 3), 0},
		{api.May, 5, api.Trans{Gen: set(1), Kill: set(2)}, []uint64{99}, nil, api.ErrDomain},
		{api.May, 5, api.Trans{Gen: set(1), Kill: set(2)}, nil, nil, api.ErrDomain},
		{api.Flat, 2, flat(api.Code{Var: 0, Op: api.OpAdd, A: api.Ref{Var: 1}, B: api.Ref{Var: -1, N: api.Num{Re: 4}}}, api.Code{Var: 1, Op: api.OpMul, A: api.Ref{}, B: api.Ref{}}),
			[]uint64{1, num(1)}, []uint64{num(5), num(25)}, 0},
		{api.Flat, 2, flat(api.Code{Var: 0, Op: -1}, api.Code{Var: 1, Op: api.OpConj, A: api.Ref{Var: 0}}), []uint64{num(3), num(1)}, []uint64{1, 1}, 0},
		{api.Flat, 2, flat(api.Code{Var: 0, A: api.Ref{Var: -1}}, api.Code{Var: 0, A: api.Ref{Var: -1}}), []uint64{1, 0}, []uint64{0, 0}, 0},
		{api.Flat, 2, api.Trans{}, []uint64{1, 3}, nil, api.ErrDomain},
	} {
		kept := slices.Clone(c.a)
		if got, e := transfer.Apply(c.what, c.width, c.t, c.a); !slices.Equal(got, c.want) || e != c.e || !slices.Equal(kept, c.a) {
			t.Error(i, got, e)
		}
	}
	x, _ := transfer.Then(api.May, 5, api.Trans{Gen: set(0, 1, 2), Kill: set(3, 4)}, api.Trans{Gen: set(3), Kill: set(1, 2)})
	if !transfer.Same(x, api.Trans{Gen: set(0, 3), Kill: set(1, 2, 4)}) {
		t.Error(x)
	}
	a, b := flat(api.Code{}), flat(api.Code{Op: -1})
	x, _ = transfer.Then(api.Flat, 1, a, b)
	if !transfer.Same(x, flat(api.Code{}, api.Code{Op: -1})) || transfer.Same(a, b) {
		t.Error(x)
	}
	if !transfer.Same(api.Trans{}, api.Trans{Gen: []uint64{}, Kill: []uint64{}, L: []api.Code{}}) || transfer.Same(api.Trans{Gen: set()}, api.Trans{Kill: set()}) ||
		transfer.Same(api.Trans{Gen: set(1)}, api.Trans{Gen: set(2)}) || transfer.Same(api.Trans{Kill: set(1)}, api.Trans{Kill: set(2)}) {
		t.Error("same")
	}
}

func TestLaws(t *testing.T) { // P16.3
	for seed := range 3000 {
		d := sample.New(seed)
		what, width := 1+d.Below(3), d.Below(4)
		s, u := d.Trans(what, width), d.Trans(what, width)
		a, b := d.Value(what, width), d.Value(what, width)
		apply := func(t api.Trans, a []uint64) []uint64 {
			x, _ := transfer.Apply(what, width, t, a)
			return x
		}
		j, _ := lattice.Join(what, width, a, b)
		if !lattice.Below(what, width, apply(s, a), apply(s, j)) {
			t.Fatal("monotone", s, a, j)
		}
		both, e := transfer.Then(what, width, s, u)
		if e != api.OK || !slices.Equal(apply(both, a), apply(u, apply(s, a))) {
			t.Fatal("then", what, s, u, a)
		}
		if k, _ := lattice.Join(what, width, apply(s, a), apply(s, b)); what != api.Flat && !slices.Equal(k, apply(s, j)) {
			t.Fatal("joins", s, a, b)
		}
	}
}
