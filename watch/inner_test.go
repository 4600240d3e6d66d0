package watch

import (
	"testing"

	"sough/api"
	"sough/fair"
	"sough/mem"
	"sough/record"
)

// faulty is memory in which something else is stored behind so many asks.
type faulty struct {
	mem.Mem
	left, at int
	w        uint64
}

func (f *faulty) Load(a int) uint64 {
	w := f.Mem.Load(a)
	if f.left--; f.left == 0 {
		f.Mem.Store(f.at, f.w)
	}
	return w
}

// pair: 0 to 1, of May and width 1; 0 begins with the number. In memory: cells
// 0 and 1, flags 2 and 3, the count 4, top 5, bottom 6.
func pair() api.System {
	t := api.Trans{Gen: []uint64{0}, Kill: []uint64{0}}
	return api.System{What: api.May, Width: 1, Nodes: 2, Edges: []api.Edge{{From: 0, To: 1}}, Entry: []int{0}, Init: []uint64{1}, T: []api.Trans{t, t}}
}

func TestFaults(t *testing.T) { // P36.2: what First finds, if there is something
	script := fair.Round(1, 60)
	for i, c := range []struct {
		loads, at int
		w         uint64
		pick      int
		found     bool
	}{
		{1, 9, 9, 0, false},      // a place of the deque
		{1, 0, 0, 1, true},       // a cell goes down
		{2, 0, 0, 3, true},       // behind load, store, load
		{1, 0, 2, 1, true},       // no value
		{1, 4, 4, 1, true},       // too many are counted
		{1, 4, 1 << 63, 1, true}, // fewer than none
		{1, 5, 0, 1, true},       // a top of 0
		{1, 6, 9, 1, true},       // a deque that is too full
		{6, 1, 0, 11, true},      // a cell goes down to where it began
	} {
		w, e := open(pair(), 1)
		if e != api.OK {
			t.Fatal(e)
		}
		pick, found := w.first(&faulty{Mem: w.m, left: c.loads, at: c.at, w: c.w}, pair(), script)
		if pick != c.pick || found != c.found {
			t.Error(i, pick, found)
		}
	}
	w, _ := open(pair(), 1)
	w.m.Store(4, 99)
	if pick, found := w.first(w.m, pair(), script); pick != 0 || !found {
		t.Error(pick, found)
	}
}

// twice is memory that asks another one twice.
type twice struct{ mem.Mem }

func (x twice) Load(a int) uint64 {
	x.Mem.Load(a)
	return x.Mem.Load(a)
}

func TestTwice(t *testing.T) { // P36.2: what Once tells, if a Step asks twice
	for long, want := range []bool{true, false, false, false} {
		w, _ := open(pair(), 1)
		c := &counter{Log: record.New(w.m)}
		if w.once(twice{c}, c, fair.Round(1, long)) != want {
			t.Error(long)
		}
	}
	w, _ := open(pair(), 1)
	c := &counter{Log: record.New(w.m)}
	if !w.once(c, c, fair.Round(1, 60)) || c.Count() == 0 {
		t.Error("once")
	}
}
