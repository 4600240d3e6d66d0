package layout_test

import (
	"math"
	"testing"

	"sough/api"
	"sough/cell"
	"sough/deque"
	"sough/lattice"
	"sough/layout"
	"sough/sample"
	"sough/ticket"
)

func small() api.System {
	return api.System{What: api.Flat, Width: 2, Nodes: 3, Init: []uint64{1, 1}, T: make([]api.Trans, 3)}
}

func TestOf(t *testing.T) { // P32.1
	l, e := layout.Of(small(), 2)
	if e != api.OK || l != (layout.Layout{What: api.Flat, Words: 2, Nodes: 3, Workers: 2}) || l.Room() != 4 || l.Size() != 6+3+1+12 {
		t.Error(l, e, l.Size())
	}
	if l.Cell(0) != (cell.Cell{What: api.Flat, Words: 2}) || l.Cell(2) != (cell.Cell{Base: 4, What: api.Flat, Words: 2}) || l.Board() != (ticket.Board{Flags: 6, Count: 9}) ||
		l.Deque(0) != (deque.Deque{Base: 10, Cap: 4}) || l.Deque(1) != (deque.Deque{Base: 16, Cap: 4}) {
		t.Error(l.Cell(2), l.Board(), l.Deque(1))
	}
	one := api.System{What: api.May, Width: 5, Nodes: 1, Init: []uint64{0}, T: []api.Trans{{Gen: []uint64{0}, Kill: []uint64{0}}}}
	if l, _ := layout.Of(one, 1); l.Size() != 7 {
		t.Error(l.Size())
	}
	for i, c := range []struct {
		s       api.System
		workers int
		want    api.Errno
	}{{small(), 1, api.OK}, {small(), 64, api.OK}, {small(), 0, api.ErrArg}, {small(), 65, api.ErrArg}, {small(), -1, api.ErrArg}, {api.System{}, 0, api.ErrKind}, {api.System{What: api.Flat}, 0, api.ErrArg},
		{api.System{What: api.Flat, Width: 1, Nodes: 1, T: make([]api.Trans, 1)}, 0, api.ErrDomain}} {
		if l, e := layout.Of(c.s, c.workers); e != c.want || e != api.OK && l != (layout.Layout{}) {
			t.Error(i, e)
		}
	}
}

func TestPart(t *testing.T) { // P32.2
	l, _ := layout.Of(small(), 2)
	for a, want := range map[int][2]int{-1: {}, math.MinInt: {}, 0: {layout.CellPart, 0}, 1: {layout.CellPart, 0}, 2: {layout.CellPart, 1}, 5: {layout.CellPart, 2}, 6: {layout.FlagPart, 0}, 8: {layout.FlagPart, 2},
		9: {layout.CountPart, 0}, 10: {layout.DequePart, 0}, 15: {layout.DequePart, 0}, 16: {layout.DequePart, 1}, 21: {layout.DequePart, 1}, 22: {}, math.MaxInt: {}} {
		if kind, whose := l.Part(a); kind != want[0] || whose != want[1] {
			t.Error(a, kind, whose)
		}
	}
	if layout.None != 0 || layout.CellPart != 1 || layout.FlagPart != 2 || layout.CountPart != 3 || layout.DequePart != 4 {
		t.Error("kinds")
	}
	for _, l := range []layout.Layout{{}, {Nodes: -1, Words: -3, Workers: -9}, {Nodes: math.MaxInt, Words: math.MaxInt, Workers: math.MaxInt}, {Nodes: math.MinInt}} {
		for _, a := range []int{0, 1, math.MaxInt, math.MinInt} {
			l.Part(a)
			l.Cell(a)
			l.Deque(a)
		}
		l.Size()
		l.Board()
	}
}

func TestEachOnes(t *testing.T) { // P32.3
	for seed := range 200 {
		d := sample.New(seed)
		s := d.Any()
		l, e := layout.Of(s, 1+d.Below(5))
		if e != api.OK || l.Words != lattice.Words(s.What, s.Width) {
			t.Fatal(e)
		}
		var kinds [5]int
		last := [2]int{layout.CellPart, 0}
		for a := range l.Size() {
			kind, whose := l.Part(a)
			kinds[kind]++
			if kind < last[0] || kind == last[0] && whose < last[1] || kind == layout.CellPart && (a < l.Cell(whose).Base || a >= l.Cell(whose).Base+l.Words) ||
				kind == layout.FlagPart && a != l.Board().Flags+whose || kind == layout.CountPart && a != l.Board().Count ||
				kind == layout.DequePart && (a < l.Deque(whose).Base || a >= l.Deque(whose).Base+2+l.Room()) {
				t.Fatal(l, a, kind, whose)
			}
			last = [2]int{kind, whose}
		}
		if kinds != [5]int{0, l.Nodes * l.Words, l.Nodes, 1, l.Workers * (l.Nodes + 3)} {
			t.Fatal(l, kinds)
		}
		if kind, _ := l.Part(l.Size()); kind != layout.None {
			t.Fatal(l)
		}
	}
}
