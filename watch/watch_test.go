package watch_test

import (
	"math"
	"slices"
	"testing"

	"sough/api"
	"sough/fair"
	"sough/layout"
	"sough/mem"
	"sough/queue"
	"sough/record"
	"sough/sample"
	"sough/solve"
	"sough/watch"
)

// pair: 0 to 1, of May and width 1; 0 gives birth to the number.
func pair() api.System {
	return api.System{What: api.May, Width: 1, Nodes: 2, Edges: []api.Edge{{From: 0, To: 1}}, Init: []uint64{0},
		T: []api.Trans{{Gen: []uint64{1}, Kill: []uint64{0}}, {Gen: []uint64{0}, Kill: []uint64{0}}}}
}

func view() solve.View {
	return solve.View{Values: [][]uint64{{0}, {0}}, Waits: []bool{true, true}, Number: 2, Tops: []int{1}, Bottoms: []int{3}, Done: []bool{false}}
}

func with(f func(v *solve.View)) solve.View {
	v := view()
	f(&v)
	return v
}

func TestSafe(t *testing.T) { // P36.1
	s := pair()
	if queue.MostEvals(s) != 3 || queue.MostJoins(s) != 2 {
		t.Fatal(queue.MostEvals(s), queue.MostJoins(s))
	}
	for i, c := range []struct {
		v    solve.View
		want bool
	}{
		{view(), true},
		{with(func(v *solve.View) { v.Values[1][0] = 1 }), true},
		{with(func(v *solve.View) { v.Values[0][0] = 1 }), false},
		{with(func(v *solve.View) { v.Values = v.Values[:1] }), false},
		{with(func(v *solve.View) { v.Values = nil }), false},
		{with(func(v *solve.View) { v.Values[0] = nil }), false},
		{with(func(v *solve.View) { v.Number = 3 }), true},
		{with(func(v *solve.View) { v.Number = 4 }), false},
		{with(func(v *solve.View) { v.Number = -1 }), false},
		{with(func(v *solve.View) { v.Number = 0 }), true},
		{with(func(v *solve.View) { v.Tops, v.Bottoms, v.Number = []int{1, 1}, []int{3, 3}, 4 }), true},
		{with(func(v *solve.View) { v.Tops = []int{1, 1} }), false},
		{with(func(v *solve.View) { v.Bottoms = []int{1, 1} }), false},
		{with(func(v *solve.View) { v.Tops, v.Bottoms = nil, nil }), true},
		{with(func(v *solve.View) { v.Tops[0] = 0 }), false},
		{with(func(v *solve.View) { v.Tops[0], v.Bottoms[0] = 1, 0 }), true},
		{with(func(v *solve.View) { v.Tops[0], v.Bottoms[0] = 2, 0 }), false},
		{with(func(v *solve.View) { v.Tops[0], v.Bottoms[0] = 1, 4 }), false},
		{with(func(v *solve.View) { v.Tops[0], v.Bottoms[0] = math.MaxInt, math.MinInt }), false},
		{with(func(v *solve.View) { v.Tops[0], v.Bottoms[0] = math.MinInt, math.MaxInt }), false},
		{with(func(v *solve.View) { v.Tops[0], v.Bottoms[0] = math.MaxInt, math.MaxInt }), true},
		{with(func(v *solve.View) { v.Evals = 3 }), true},
		{with(func(v *solve.View) { v.Evals = 4 }), false},
		{with(func(v *solve.View) { v.Joins = 2 }), true},
		{with(func(v *solve.View) { v.Joins = 3 }), false},
	} {
		if watch.Safe(s, c.v) != c.want {
			t.Error(i)
		}
	}
	if watch.Safe(api.System{}, solve.View{}) || watch.Safe(api.System{}, view()) {
		t.Error("not right")
	}
	for i, c := range []struct {
		a, b solve.View
		want bool
	}{
		{view(), view(), true},
		{view(), with(func(v *solve.View) { v.Values[1][0], v.Evals, v.Joins, v.Used = 1, 1, 1, 1 }), true},
		{with(func(v *solve.View) { v.Values[1][0] = 1 }), view(), false},
		{with(func(v *solve.View) { v.Evals = 1 }), view(), false},
		{with(func(v *solve.View) { v.Joins = 1 }), view(), false},
		{with(func(v *solve.View) { v.Used = 1 }), view(), false},
		{view(), solve.View{}, false}, {solve.View{}, view(), false},
	} {
		if watch.Rises(s, c.a, c.b) != c.want || watch.Rises(api.System{}, c.a, c.b) {
			t.Error(i)
		}
	}
}

func TestErrors(t *testing.T) { // P36.2
	for i, c := range []struct {
		s       api.System
		workers int
		want    api.Errno
	}{{pair(), 0, api.ErrArg}, {pair(), 65, api.ErrArg}, {api.System{}, 0, api.ErrKind}, {api.System{What: api.May, Width: 1}, 1, api.ErrArg}, {pair(), 2, api.OK}} {
		k, found, e1 := watch.First(c.s, c.workers, nil)
		l, e2 := watch.Touches(c.s, c.workers, nil)
		once, e3 := watch.Once(c.s, c.workers, nil)
		if e1 != c.want || e2 != c.want || e3 != c.want || k != 0 || found || len(l) != 0 || once != (c.want == api.OK) {
			t.Error(i, e1, e2, e3)
		}
	}
	l, e := watch.Touches(pair(), 1, fair.Round(1, 3))
	if want := []record.Event{{Kind: record.Load, At: 6, Got: 3}, {Kind: record.Store, At: 6, A: 2}, {Kind: record.Load, At: 5, Got: 1}}; e != api.OK || !slices.Equal(l, want) {
		t.Error(l, e)
	}
}

func TestEachPick(t *testing.T) { // P36.3
	for seed := range 250 {
		d := sample.New(seed)
		s := d.Any()
		workers := 1 + d.Below(4)
		script := append(d.Script(workers, d.Below(300)), fair.Weave(workers, 600, []int{d.Below(99), d.Below(99), 5, -3})...)
		k, found, e := watch.First(s, workers, script)
		once, e2 := watch.Once(s, workers, script)
		if k != 0 || found || e != api.OK || !once || e2 != api.OK {
			t.Fatal(seed, k, found, once, e, e2)
		}
		l, _ := layout.Of(s, workers)
		log := record.New(mem.NewPlain(l.Size()))
		solve.Fill(log, s, workers)
		touches, _ := watch.Touches(s, workers, script)
		if !record.Right(l.Size(), append(log.Events(), touches...)) || len(touches) == 0 {
			t.Fatal(seed)
		}
		for _, a := range record.Touched(touches) {
			if kind, _ := l.Part(a); kind == layout.None {
				t.Fatal(seed, a)
			}
		}
		for k := 0; k < 40; k++ {
			v, _ := solve.At(s, workers, script[:k])
			next, _ := solve.At(s, workers, script[:k+1])
			if !watch.Safe(s, v) || !watch.Rises(s, v, next) {
				t.Fatal(seed, k)
			}
		}
	}
}
