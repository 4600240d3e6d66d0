package system_test

import (
	"reflect"
	"slices"
	"testing"

	"sough/api"
	"sough/flow"
	"sough/lattice"
	"sough/sample"
	"sough/system"
	"sough/transfer"
)

// small: 0 to 1, 1 to 1, of May and width 5.
func small() api.System {
	none := []uint64{0}
	return api.System{What: api.May, Width: 5, Nodes: 2, Edges: []api.Edge{{From: 0, To: 1}, {From: 1, To: 1}}, Entry: []int{0}, Init: []uint64{6},
		T: []api.Trans{{Gen: []uint64{8}, Kill: []uint64{2}}, {Gen: []uint64{16}, Kill: none}}}
}

func with(f func(s *api.System)) api.System {
	s := small()
	f(&s)
	return s
}

func TestCheck(t *testing.T) { // P17.1
	for i, c := range []struct {
		s    api.System
		want api.Errno
	}{
		{small(), api.OK},
		{api.System{}, api.ErrKind},
		{with(func(s *api.System) { s.What, s.Nodes = 4, 0 }), api.ErrKind},
		{with(func(s *api.System) { s.Width, s.T = -1, nil }), api.ErrKind},
		{with(func(s *api.System) { s.Width = 1025 }), api.ErrKind},
		{with(func(s *api.System) { s.Nodes = 0 }), api.ErrArg},
		{with(func(s *api.System) { s.Edges[0].To = 2; s.Init = nil }), api.ErrArg},
		{with(func(s *api.System) { s.Entry[0] = 2 }), api.ErrArg},
		{with(func(s *api.System) { s.Entry = []int{0, -1} }), api.ErrArg},
		{with(func(s *api.System) { s.Entry = nil }), api.OK},
		{with(func(s *api.System) { s.Entry = []int{0, 0, 1} }), api.OK},
		{with(func(s *api.System) { s.T = s.T[:1]; s.Init = nil }), api.ErrArg},
		{with(func(s *api.System) { s.T = append(s.T, s.T...) }), api.ErrArg},
		{with(func(s *api.System) { s.Init = nil }), api.ErrDomain},
		{with(func(s *api.System) { s.Init[0] = 32 }), api.ErrDomain},
		{with(func(s *api.System) { s.T[1].Gen[0] = 32 }), api.ErrDomain},
		{with(func(s *api.System) { s.T[1].L = make([]api.Code, 1) }), api.ErrDomain},
		{with(func(s *api.System) { s.What = api.Flat }), api.ErrDomain},
	} {
		if e := system.Check(c.s); e != c.want {
			t.Error(i, e)
		}
		v := [][]uint64{{0}, {0}}
		a, e1 := system.Start(c.s, 0)
		b, e2 := system.Out(c.s, 0, v[0])
		x, e3 := system.Bottom(c.s)
		y, e4 := system.Step(c.s, v)
		if e1 != c.want || e2 != c.want || e3 != c.want || e4 != c.want {
			t.Error(i, e1, e2, e3, e4)
		}
		if c.want != api.OK && (a != nil || b != nil || x != nil || y != nil || system.Below(c.s, v, v) || system.Solves(c.s, v)) {
			t.Error(i, "values")
		}
	}
}

func TestValues(t *testing.T) { // P17.2
	s := small()
	for v, want := range []uint64{6, 0} {
		if a, e := system.Start(s, v); !slices.Equal(a, []uint64{want}) || e != api.OK {
			t.Error(v, a, e)
		}
	}
	a, _ := system.Start(s, 0)
	if a[0] = 99; s.Init[0] != 6 {
		t.Error("shared")
	}
	if a, e := system.Out(s, 0, []uint64{3}); !slices.Equal(a, []uint64{9}) || e != api.OK {
		t.Error(a, e)
	}
	for _, v := range []int{-1, 2} {
		a, e := system.Start(s, v)
		b, e2 := system.Out(s, v, []uint64{99})
		if e != api.ErrArg || e2 != api.ErrArg || a != nil || b != nil {
			t.Error(v, e, e2)
		}
	}
	if a, e := system.Out(s, 0, []uint64{32}); e != api.ErrDomain || a != nil {
		t.Error(e)
	}
	if b, e := system.Bottom(s); e != api.OK || !reflect.DeepEqual(b, [][]uint64{{0}, {0}}) {
		t.Error(b, e)
	}
	if b, e := system.Step(s, [][]uint64{{3}, {1}}); e != api.OK || !reflect.DeepEqual(b, [][]uint64{{6}, {8 | 1 | 16}}) {
		t.Error(b, e)
	}
	for i, a := range [][][]uint64{nil, {{0}}, {{0}, {32}}, {{0}, nil}, {{0}, {0}, {0}}} {
		if b, e := system.Step(s, a); e != api.ErrDomain || b != nil {
			t.Error(i, e)
		}
		if system.Below(s, a, a) || system.Solves(s, a) {
			t.Error(i)
		}
	}
	for i, a := range [][][]uint64{nil, {{0}}, {{0}, {32}}, {{0}, {0}, {0}}} {
		if b := [][]uint64{{0}, {0}}; system.Below(s, a, b) || system.Below(s, b, a) {
			t.Error(i)
		}
	}
	if !system.Below(s, [][]uint64{{1}, {2}}, [][]uint64{{1}, {6}}) || system.Below(s, [][]uint64{{1}, {2}}, [][]uint64{{1}, {4}}) {
		t.Error("below")
	}
	if !system.Solves(s, [][]uint64{{6}, {28}}) || system.Solves(s, [][]uint64{{6}, {30}}) == false || system.Solves(s, [][]uint64{{6}, {12}}) || system.Solves(s, [][]uint64{{7}, {28}}) {
		t.Error("solves")
	}
	one := api.System{What: api.Flat, Width: 1, Nodes: 1, Entry: []int{0}, Init: []uint64{1}, T: []api.Trans{{}}}
	if b, e := system.Step(one, [][]uint64{{2}}); e != api.OK || b[0][0] != 1 {
		t.Error(b, e)
	}
}

func TestCopies(t *testing.T) { // P17.3
	for seed := range 60 {
		s := sample.New(seed).Any()
		c := system.Clone(s)
		if c.What != s.What || c.Width != s.Width || c.Nodes != s.Nodes || !slices.Equal(c.Edges, s.Edges) || !slices.Equal(c.Entry, s.Entry) || !slices.Equal(c.Init, s.Init) ||
			!slices.EqualFunc(c.T, s.T, transfer.Same) {
			t.Fatal(c, s)
		}
		r := system.Reverse(s, []int{0, 0})
		if !slices.Equal(r.Edges, flow.Reverse(s.Edges)) || !slices.Equal(r.Entry, []int{0, 0}) || r.Nodes != s.Nodes || !slices.EqualFunc(r.T, s.T, transfer.Same) || !slices.Equal(r.Init, s.Init) {
			t.Fatal(r, s)
		}
	}
	s := small()
	for _, c := range []api.System{system.Clone(s), system.Reverse(s, s.Entry)} {
		c.Edges[0].From, c.Entry[0], c.Init[0], c.T[0].Gen[0], c.T[0].Kill[0] = 9, 9, 9, 9, 9
		c.T[1] = api.Trans{}
		if !reflect.DeepEqual(s, small()) {
			t.Fatal("shared")
		}
	}
	system.Clone(api.System{})
	system.Reverse(api.System{Nodes: -1, Edges: []api.Edge{{From: -9}}}, nil)
}

func TestMonotone(t *testing.T) { // P17.4
	for seed := range 1000 {
		d := sample.New(seed)
		s := d.Any()
		a, b := make([][]uint64, s.Nodes), make([][]uint64, s.Nodes)
		for v := range a {
			a[v] = d.Value(s.What, s.Width)
			b[v], _ = lattice.Join(s.What, s.Width, a[v], d.Value(s.What, s.Width))
		}
		x, e := system.Step(s, a)
		y, _ := system.Step(s, b)
		if e != api.OK || !system.Below(s, a, b) || !system.Below(s, x, y) {
			t.Fatal(s, a, b)
		}
		for v := range a { // the promise's own words
			want, _ := system.Start(s, v)
			for _, u := range flow.Back(s.Nodes, s.Edges, v) {
				o, _ := system.Out(s, u, a[u])
				want, _ = lattice.Join(s.What, s.Width, want, o)
			}
			if !slices.Equal(want, x[v]) {
				t.Fatal(s, v)
			}
		}
	}
}
