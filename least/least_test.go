package least_test

import (
	"math"
	"slices"
	"testing"

	"sough/api"
	"sough/lattice"
	"sough/least"
	"sough/sample"
	"sough/system"
)

func one(init uint64) api.System {
	return api.System{What: api.May, Width: 2, Nodes: 1, Entry: []int{0}, Init: []uint64{init}, T: []api.Trans{{Gen: []uint64{0}, Kill: []uint64{0}}}}
}

func TestSolve(t *testing.T) { // P18.1
	for init, want := range map[uint64]int{0: 0, 3: 1} {
		if a, k, e := least.Solve(one(init)); e != api.OK || k != want || !least.Same(a, [][]uint64{{init}}) {
			t.Error(a, k, e)
		}
	}
	bad := one(9)
	a, k, e := least.Solve(bad)
	b, e2 := least.Iterate(bad, 3)
	c, e3 := least.Outs(bad, nil)
	if e != api.ErrDomain || e2 != api.ErrDomain || e3 != api.ErrDomain || a != nil || b != nil || c != nil || k != 0 {
		t.Error(e, e2, e3)
	}
	huge := api.System{What: api.May, Width: 5, Nodes: math.MaxInt}
	if _, e := least.Iterate(huge, math.MaxInt); e != api.ErrArg {
		t.Error(e)
	}
	if !least.Same(nil, [][]uint64{}) || !least.Same([][]uint64{nil}, [][]uint64{{}}) || least.Same([][]uint64{{1}}, [][]uint64{{2}}) || least.Same([][]uint64{{1}}, [][]uint64{{1}, {1}}) || least.Same([][]uint64{{1}}, [][]uint64{{1, 0}}) {
		t.Error("same")
	}
}

func TestIterate(t *testing.T) { // P18.1
	for seed := range 200 {
		s := sample.New(seed).Any()
		want, e := system.Bottom(s)
		if e != api.OK {
			t.Fatal(e)
		}
		most := s.Nodes*lattice.Height(s.What, s.Width) + 1
		_, steps, _ := least.Solve(s)
		for k := range min(most, 12) + 1 {
			a, e := least.Iterate(s, k)
			next, _ := system.Step(s, want)
			if e != api.OK || !least.Same(a, want) || least.Same(next, want) != (k >= steps) {
				t.Fatal(seed, k, a, want)
			}
			want = next
		}
		x, _ := least.Iterate(s, -7)
		y, _ := system.Bottom(s)
		z, _ := least.Iterate(s, math.MaxInt)
		w, _, _ := least.Solve(s)
		if !least.Same(x, y) || !least.Same(z, w) {
			t.Fatal(seed)
		}
		outs, e := least.Outs(s, w)
		for v := range outs {
			o, _ := system.Out(s, v, w[v])
			if !slices.Equal(o, outs[v]) {
				t.Fatal(seed, v)
			}
		}
		if e != api.OK || len(outs) != s.Nodes {
			t.Fatal(seed, e)
		}
		if o, e := least.Outs(s, w[1:]); e != api.ErrDomain || o != nil {
			t.Fatal(seed, e)
		}
	}
}

func TestLeast(t *testing.T) { // P18.2
	solutions := 0
	for seed := range 400 {
		d := sample.New(seed)
		s := d.System(1+d.Below(3), 1+d.Below(2), 1+d.Below(3), d.Below(6))
		a, k, _ := least.Solve(s)
		if !system.Solves(s, a) || k > s.Nodes*lattice.Height(s.What, s.Width)+1 {
			t.Fatal(seed, a, k)
		}
		for range 60 {
			b := make([][]uint64, s.Nodes)
			for v := range b {
				b[v] = d.Value(s.What, s.Width)
			}
			for range 8 { // climb from there: most end at some solution
				b, _ = system.Step(s, b)
			}
			if system.Solves(s, b) {
				solutions++
				if !system.Below(s, a, b) {
					t.Fatal(seed, a, b)
				}
			}
		}
	}
	if solutions < 1000 {
		t.Error(solutions)
	}
}
