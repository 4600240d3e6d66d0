package solve_test

import (
	"reflect"
	"slices"
	"testing"

	"sough/api"
	"sough/fair"
	"sough/layout"
	"sough/least"
	"sough/mem"
	"sough/queue"
	"sough/sample"
	"sough/share"
	"sough/solve"
	"sough/system"
)

func lone() api.System {
	return api.System{What: api.May, Width: 1, Nodes: 1, Init: []uint64{1}, Entry: []int{0}, T: []api.Trans{{Gen: []uint64{0}, Kill: []uint64{0}}}}
}

func TestFill(t *testing.T) { // P34.1
	for seed := range 100 {
		d := sample.New(seed)
		s := d.Any()
		workers := 1 + d.Below(4)
		l, _ := layout.Of(s, workers)
		m := mem.NewPlain(l.Size() + 2)
		for a := range m.Len() {
			m.Store(a, 0xdead)
		}
		if e := solve.Fill(m, s, workers); e != api.OK {
			t.Fatal(e)
		}
		values := solve.Values(m, l)
		seeds, _ := share.Seeds(s.Nodes, s.Edges, s.Entry, workers)
		for v := range s.Nodes {
			a, _ := system.Start(s, v)
			if !slices.Equal(values[v], a) || !l.Board().Waits(m, v) {
				t.Fatal(seed, v, values[v])
			}
		}
		for w := range workers {
			var want []uint64
			for _, v := range seeds[w] {
				want = append(want, uint64(v))
			}
			if !slices.Equal(l.Deque(w).List(m), want) || l.Deque(w).Top(m) != 1 {
				t.Fatal(seed, w, l.Deque(w).List(m))
			}
		}
		if l.Board().Number(m) != s.Nodes || len(values) != s.Nodes || m.Load(l.Size()) != 0xdead || m.Load(l.Size()+1) != 0xdead {
			t.Fatal(seed)
		}
		if e := solve.Fill(mem.NewShared(l.Size()-1), s, workers); e != api.ErrLimit {
			t.Fatal(e)
		}
	}
	for i, c := range []struct {
		s       api.System
		workers int
		want    api.Errno
	}{{lone(), 0, api.ErrArg}, {lone(), 65, api.ErrArg}, {api.System{}, 0, api.ErrKind}, {lone(), 1, api.ErrLimit}} {
		if e := solve.Fill(nil, c.s, c.workers); e != c.want {
			t.Error(i, e)
		}
	}
	if len(solve.Values(nil, layout.Layout{Nodes: 1 << 62, Words: 9})) != 0 || len(solve.Values(nil, layout.Layout{})) != 0 || len(solve.Values(nil, layout.Layout{Nodes: -4, Words: 3})) != 0 {
		t.Error("no layout")
	}
	if v := solve.Values(nil, layout.Layout{Nodes: 2, Words: 1}); !least.Same(v, [][]uint64{{0}, {0}}) {
		t.Error(v)
	}
}

func TestRun(t *testing.T) { // P34.2
	if f, e := solve.Run(lone(), 1, fair.Round(1, 99)); e != api.OK || !reflect.DeepEqual(f, solve.Found{Values: [][]uint64{{1}}, Evals: 1, Used: 14}) {
		t.Error(f, e)
	}
	for i, c := range []struct {
		s       api.System
		workers int
		script  []api.Pick
		want    api.Errno
	}{{lone(), 1, nil, api.ErrSpent}, {lone(), 1, fair.Round(1, 13), api.ErrSpent}, {lone(), 1, fair.Round(1, 14), api.OK}, {lone(), 2, fair.Round(1, 5000), api.ErrSpent},
		{lone(), 0, nil, api.ErrArg}, {lone(), 65, nil, api.ErrArg}, {api.System{}, 0, nil, api.ErrKind}} {
		f, e := solve.Run(c.s, c.workers, c.script)
		if e != c.want || e != api.OK && !reflect.DeepEqual(f, solve.Found{}) {
			t.Error(i, f, e)
		}
		v, e := solve.At(c.s, c.workers, c.script)
		if (e == api.OK) != (c.want == api.OK || c.want == api.ErrSpent) || e != api.OK && (e != c.want || !reflect.DeepEqual(v, solve.View{})) {
			t.Error(i, v, e)
		}
	}
	v, _ := solve.At(lone(), 2, nil)
	if !reflect.DeepEqual(v, solve.View{Values: [][]uint64{{1}}, Waits: []bool{true}, Number: 1, Tops: []int{1, 1}, Bottoms: []int{2, 1}, Done: []bool{false, false}}) {
		t.Error(v)
	}
	v, _ = solve.At(lone(), 2, fair.Round(1, 30))
	if !reflect.DeepEqual(v, solve.View{Values: [][]uint64{{1}}, Waits: []bool{false}, Evals: 1, Used: 30, Tops: []int{2, 1}, Bottoms: []int{2, 1}, Done: []bool{true, false}}) {
		t.Error(v)
	}
}

func TestLeast(t *testing.T) { // P34.3, P34.2
	for seed := range 500 {
		d := sample.New(seed)
		s := d.Any()
		workers := 1 + d.Below(5)
		script := append(d.Script(workers, d.Below(400)), fair.Weave(workers, 20000, []int{d.Below(99), d.Below(99), 5, -3})...)
		f, e := solve.Run(s, workers, script)
		want, _, _ := least.Solve(s)
		if e != api.OK || !least.Same(f.Values, want) || f.Joins > queue.MostJoins(s) || f.Evals > queue.MostEvals(s) || f.Evals < s.Nodes {
			t.Fatal(seed, f, e, want)
		}
		ahead, _ := solve.At(s, workers, nil)
		for k := 1; k < f.Used; k += 1 + d.Below(9) {
			v, _ := solve.At(s, workers, script[:k:k])
			if !system.Below(s, ahead.Values, v.Values) || !system.Below(s, v.Values, want) || v.Number < 1 && slices.Contains(v.Waits, true) {
				t.Fatal(seed, k, v)
			}
			ahead = v
			if k > 200 {
				break
			}
		}
		end, _ := solve.At(s, workers, script)
		if !least.Same(end.Values, want) || end.Number != 0 || slices.Contains(end.Waits, true) || slices.Contains(end.Done, false) || end.Evals != f.Evals || end.Joins != f.Joins || end.Used != f.Used {
			t.Fatal(seed, end)
		}
		for w := range workers {
			if end.Tops[w] != end.Bottoms[w] {
				t.Fatal(seed, end)
			}
		}
	}
}
