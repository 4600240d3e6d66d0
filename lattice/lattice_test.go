package lattice_test

import (
	"math"
	"slices"
	"testing"

	"sough/api"
	"sough/constant"
	"sough/lattice"
	"sough/sample"
	"sough/wordset"
)

func num(n int) uint64 { return constant.Of(api.Num{Re: n}) }

func TestValues(t *testing.T) { // P12.1
	full := uint64(math.MaxUint64)
	for i, c := range []struct {
		what, width, words int
		bottom, top        []uint64
	}{
		{api.May, 0, 0, nil, nil}, {api.Must, 0, 0, nil, nil}, {api.Flat, 0, 0, nil, nil},
		{api.May, 66, 2, []uint64{0, 0}, []uint64{full, 3}},
		{api.Must, 66, 2, []uint64{full, 3}, []uint64{0, 0}},
		{api.Flat, 2, 2, []uint64{0, 0}, []uint64{1, 1}},
		{api.May, 1025, 0, nil, nil}, {api.Must, 1025, 0, nil, nil}, {api.Flat, 1025, 0, nil, nil}, {api.Must, -1, 0, nil, nil}, {api.Flat, -1, 0, nil, nil}, {0, 5, 0, nil, nil}, {4, 5, 0, nil, nil}, {-1, 5, 0, nil, nil},
	} {
		if lattice.Words(c.what, c.width) != c.words || !slices.Equal(lattice.Bottom(c.what, c.width), c.bottom) || !slices.Equal(lattice.Top(c.what, c.width), c.top) {
			t.Error(i)
		}
	}
	if lattice.Words(api.Flat, 1024) != 1024 || lattice.Words(api.May, 1024) != 16 {
		t.Error("widest")
	}
	for i, c := range []struct {
		what, width int
		a           []uint64
		want        bool
	}{
		{api.May, 0, nil, true}, {api.May, 5, []uint64{31}, true}, {api.May, 5, []uint64{32}, false}, {api.Must, 5, nil, false}, {api.Must, 5, []uint64{0, 0}, false},
		{api.Flat, 2, []uint64{0, num(5)}, true}, {api.Flat, 2, []uint64{0, 3}, false}, {api.Flat, 2, []uint64{1}, false}, {0, 0, nil, false}, {api.May, -1, nil, false},
		{api.May, 2000, make([]uint64, 16), false},
	} {
		if lattice.Is(c.what, c.width, c.a) != c.want {
			t.Error(i)
		}
	}
}

func TestJoin(t *testing.T) { // P12.2
	for i, c := range []struct {
		what       int
		a, b, want uint64
	}{{api.May, 6, 3, 7}, {api.Must, 6, 3, 2}, {api.Flat, 6, 2, 1}, {api.Flat, 0, 6, 6}, {api.Flat, 3, 3, 1}, {0, 6, 3, 0}, {4, 6, 6, 0}} {
		if lattice.Word(c.what, c.a, c.b) != c.want {
			t.Error(i)
		}
	}
	for i, c := range []struct {
		what, width int
		a, b, want  []uint64
		e           api.Errno
	}{
		{api.May, 5, []uint64{6}, []uint64{3}, []uint64{7}, api.OK},
		{api.Must, 5, []uint64{6}, []uint64{3}, []uint64{2}, api.OK},
		{api.Flat, 2, []uint64{num(1), 0}, []uint64{num(2), 1}, []uint64{1, 1}, api.OK},
		{9, 5, []uint64{6}, []uint64{99}, nil, api.ErrKind},
		{api.May, -1, nil, nil, nil, api.ErrKind},
		{api.May, 5, []uint64{6}, []uint64{99}, nil, api.ErrDomain},
		{api.May, 5, nil, []uint64{9}, nil, api.ErrDomain},
		{api.Flat, 1, []uint64{3}, []uint64{1}, nil, api.ErrDomain},
	} {
		if got, e := lattice.Join(c.what, c.width, c.a, c.b); !slices.Equal(got, c.want) || e != c.e {
			t.Error(i, got, e)
		}
		if _, e := lattice.Rank(c.what, c.width, c.b); e != c.e && c.b != nil && i < 6 {
			t.Error(i, e)
		}
	}
	for i, c := range []struct {
		what, width int
		a, b        []uint64
		want        bool
	}{{api.May, 5, []uint64{2}, []uint64{6}, true}, {api.May, 5, []uint64{6}, []uint64{2}, false}, {api.Must, 5, []uint64{6}, []uint64{2}, true},
		{api.Must, 5, []uint64{2}, []uint64{6}, false}, {api.Flat, 1, []uint64{num(1)}, []uint64{1}, true}, {api.Flat, 1, []uint64{3}, []uint64{1}, false},
		{0, 0, nil, nil, false}, {api.May, 0, nil, nil, true}, {api.May, 5, []uint64{2}, []uint64{99}, false}} {
		if lattice.Below(c.what, c.width, c.a, c.b) != c.want {
			t.Error(i)
		}
	}
	for i, c := range []struct {
		what, width int
		a           []uint64
		rank        int
		e           api.Errno
	}{{api.May, 5, []uint64{7}, 3, 0}, {api.Must, 5, []uint64{7}, 2, 0}, {api.Flat, 3, []uint64{0, 1, num(1)}, 3, 0}, {api.Flat, 3, nil, 0, api.ErrDomain},
		{0, 3, nil, 0, api.ErrKind}, {api.Must, 1025, nil, 0, api.ErrKind}, {api.Must, 5, []uint64{64}, 0, api.ErrDomain}} {
		if got, e := lattice.Rank(c.what, c.width, c.a); got != c.rank || e != c.e {
			t.Error(i, got, e)
		}
	}
	for i, c := range []struct{ what, width, want int }{{api.May, 5, 5}, {api.Must, 1024, 1024}, {api.Flat, 3, 6}, {api.Flat, 1024, 2048}, {0, 3, 0}, {api.May, -1, 0}, {api.Flat, 1025, 0}} {
		if got := lattice.Height(c.what, c.width); got != c.want {
			t.Error(i, got)
		}
	}
}

func value(d *sample.Dice, what, width int) []uint64 {
	if what == api.Flat {
		a := make([]uint64, width)
		for i := range a {
			a[i] = []uint64{0, 1, num(1), num(2)}[d.Below(4)]
		}
		return a
	}
	a := wordset.Full(width)
	for i := range a {
		a[i] &= d.Word()
	}
	return a
}

func TestLaws(t *testing.T) { // P12.3
	d := sample.New(5)
	for range 2000 {
		what, width := 1+d.Below(3), d.Below(4)
		if d.Below(9) == 0 {
			width = 70
		}
		a, b, c := value(d, what, width), value(d, what, width), value(d, what, width)
		j, e := lattice.Join(what, width, a, b)
		if e != api.OK || !lattice.Below(what, width, a, j) || !lattice.Below(what, width, b, j) || !lattice.Below(what, width, lattice.Bottom(what, width), a) || !lattice.Below(what, width, a, lattice.Top(what, width)) {
			t.Fatal(what, a, b, j)
		}
		if lattice.Below(what, width, a, c) && lattice.Below(what, width, b, c) && !lattice.Below(what, width, j, c) {
			t.Fatal("least", a, b, c)
		}
		x, _ := lattice.Rank(what, width, a)
		y, _ := lattice.Rank(what, width, c)
		if lattice.Below(what, width, a, c) && !slices.Equal(a, c) && x >= y || y > lattice.Height(what, width) {
			t.Fatal("rank", what, a, c)
		}
	}
}
