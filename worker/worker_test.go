package worker_test

import (
	"math"
	"slices"
	"testing"

	"sough/api"
	"sough/layout"
	"sough/mem"
	"sough/record"
	"sough/sample"
	"sough/worker"
)

// chain: 0 to 1 to 1, of May and width 1; what goes through has the number.
func chain() api.System {
	t := api.Trans{Gen: []uint64{1}, Kill: []uint64{0}}
	return api.System{What: api.May, Width: 1, Nodes: 2, Edges: []api.Edge{{From: 0, To: 1}, {From: 1, To: 1}}, Init: []uint64{0}, T: []api.Trans{t, t}}
}

func lone() api.System {
	return api.System{What: api.May, Width: 1, Nodes: 1, Init: []uint64{0}, T: []api.Trans{{Gen: []uint64{0}, Kill: []uint64{0}}}}
}

// fill lays out the memory: these nodes wait in the deque of worker 0.
func fill(l layout.Layout, nodes ...uint64) *mem.Plain {
	m := mem.NewPlain(l.Size())
	for w := range l.Workers {
		l.Deque(w).Reset(m)
	}
	for i, v := range nodes {
		d := l.Deque(0)
		m.Store(d.Base+2+(1+i)%d.Cap, v)
		m.Store(d.Base+1, uint64(2+i))
		m.Store(l.Board().Flags+int(v%uint64(l.Nodes)), 1)
		m.Store(l.Board().Count, uint64(1+i))
	}
	return m
}

func TestNew(t *testing.T) { // P33.1
	s := chain()
	l, _ := layout.Of(s, 3)
	other := l
	other.Nodes = 3
	none := l
	none.Workers = 0
	for i, c := range []struct {
		s    api.System
		l    layout.Layout
		who  int
		want api.Errno
	}{{s, l, 0, api.OK}, {s, l, 2, api.OK}, {s, l, 3, api.ErrArg}, {s, l, -1, api.ErrArg}, {s, other, 0, api.ErrArg}, {s, none, 0, api.ErrArg}, {s, layout.Layout{}, 0, api.ErrArg}, {api.System{}, layout.Layout{}, 9, api.ErrKind}} {
		if w, e := worker.New(c.s, c.l, c.who); e != c.want || (w == nil) != (e != api.OK) {
			t.Error(i, e)
		}
	}
}

func TestAlone(t *testing.T) { // P33.1, P33.2
	s := lone()
	l, _ := layout.Of(s, 1)
	w, _ := worker.New(s, l, 0)
	m := fill(l, 0)
	for k := 1; k <= 14; k++ {
		done := w.Step(m, 0)
		v, looks := w.Node()
		if done != (k == 14) || w.Ended != done || v != 0 || looks != (k >= 6 && k < 9) || w.Idle() != (k == 13) {
			t.Fatal(k, done, v, looks, w.Idle())
		}
	}
	if !w.Step(m, 0) || w.Evals != 1 || w.Joins != 0 {
		t.Error(w.Evals, w.Joins)
	}
}

func TestThings(t *testing.T) { // P33.1
	const load, store, cas, add = record.Load, record.Store, record.CAS, record.Add
	s := chain()
	l, _ := layout.Of(s, 1)
	w, _ := worker.New(s, l, 0)
	s.T[0].Gen[0], s.Edges[0].To = 0, 0 // a machine keeps what it was made of
	log := record.New(fill(l, 0))
	steps := 0
	for ; !w.Ended && steps < 100; steps++ {
		ahead := log.Count()
		w.Step(log, steps)
		if log.Count() > ahead+1 {
			t.Fatal("two things")
		}
	}
	pop := func(t, b, n int) []record.Event { // of the last number
		return []record.Event{{Kind: load, At: 6, Got: uint64(b)}, {Kind: store, At: 6, A: uint64(b - 1)}, {Kind: load, At: 5, Got: uint64(t)}, {Kind: load, At: 7 + (b-1)%3, Got: uint64(n)},
			{Kind: cas, At: 5, A: uint64(t), B: uint64(t + 1), OK: true}, {Kind: store, At: 6, A: uint64(b)}}
	}
	want := slices.Concat(pop(1, 2, 0), []record.Event{
		{Kind: store, At: 2}, {Kind: load, At: 0}, // clear, read
		{Kind: load, At: 1}, {Kind: cas, At: 1, B: 1, OK: true}, // join
		{Kind: cas, At: 3, B: 1, OK: true}, {Kind: add, At: 4, A: 1, Got: 2}, // take
		{Kind: load, At: 6, Got: 2}, {Kind: load, At: 5, Got: 2}, {Kind: store, At: 9, A: 1}, {Kind: store, At: 6, A: 3}, // push
		{Kind: add, At: 4, A: math.MaxUint64, Got: 1}, // retire
	}, pop(2, 3, 1), []record.Event{
		{Kind: store, At: 3}, {Kind: load, At: 1, Got: 1}, {Kind: load, At: 1, Got: 1}, {Kind: add, At: 4, A: math.MaxUint64},
		{Kind: load, At: 6, Got: 3}, {Kind: store, At: 6, A: 2}, {Kind: load, At: 5, Got: 3}, {Kind: store, At: 6, A: 3}, {Kind: load, At: 4}, // pop, quiet
	})
	if !slices.Equal(log.Events(), want) || w.Evals != 2 || w.Joins != 1 {
		t.Error(log.Events(), w.Evals, w.Joins)
	}
}

func TestAskAgain(t *testing.T) { // P33.1
	s := lone()
	l, _ := layout.Of(s, 1)
	w, _ := worker.New(s, l, 0)
	m := fill(l)
	m.Store(l.Board().Count, 1)
	for k := range 15 { // pop, quiet; three times
		if w.Step(m, 0) || w.Idle() != (k%5 == 3) {
			t.Fatal(k)
		}
	}
	l, _ = layout.Of(s, 2)
	w, _ = worker.New(s, l, 0)
	m = fill(l)
	m.Store(l.Board().Count, 1)
	for k := range 4 + 9 { // pop; rob, ask; three times
		if w.Step(m, 0) || w.Idle() != (k >= 3) {
			t.Fatal(k)
		}
	}
	m.Store(l.Board().Count, 0)
	if w.Step(m, 0) || w.Step(m, 0) || !w.Step(m, 0) || w.Idle() {
		t.Error("it ends")
	}
}

func TestRob(t *testing.T) { // P33.1
	s := chain()
	l, _ := layout.Of(s, 4)
	for who := range 4 {
		for draw, far := range map[int]int{0: 1, 1: 2, 2: 3, 3: 1, -1: 3, -3: 1, math.MinInt: 2, math.MaxInt: 2} {
			w, _ := worker.New(s, l, who)
			log := record.New(fill(l))
			for range 4 {
				w.Step(log, 77)
			}
			w.Step(log, draw)
			w.Step(log, 55)
			top := log.Events()[4].At
			if kind, whose := l.Part(top); kind != layout.DequePart || whose != (who+far)%4 {
				t.Error(who, draw, whose)
			}
		}
	}
	w, _ := worker.New(s, l, 1)
	m := fill(l, 1)
	for k := range 4 + 4 { // an empty Pop; a Steal of worker 0
		if w.Step(m, 2) {
			t.Fatal(k)
		}
	}
	if v, looks := w.Node(); v != 1 || !looks || w.Idle() {
		t.Error(v, looks)
	}
}

func TestNoNode(t *testing.T) { // P33.1, P33.2
	s := chain()
	for _, n := range []uint64{2, 77, math.MaxUint64} {
		l, _ := layout.Of(s, 1)
		w, _ := worker.New(s, l, 0)
		m := fill(l, n)
		for range 6 {
			w.Step(m, 0)
		}
		v, looks := w.Node()
		w.Step(m, 0)
		_, still := w.Node()
		if v != 0 || !looks || still || l.Board().Number(m) != 0 || w.Evals != 0 {
			t.Error(n, v, looks, still)
		}
	}
}

func TestNobodys(t *testing.T) { // P33.2
	var none *worker.Worker
	for i, w := range []*worker.Worker{none, new(worker.Worker)} {
		log := record.New(mem.NewPlain(9))
		v, looks := w.Node()
		if !w.Step(log, 0) || !w.Step(nil, 0) || log.Count() != 0 || v != 0 || looks || w.Idle() {
			t.Error(i)
		}
	}
	s := chain()
	l, _ := layout.Of(s, 2)
	w, _ := worker.New(s, l, 0)
	for range 50 { // of no words all is 0, so that none waits
		w.Step(nil, 0)
	}
	if !w.Ended {
		t.Error("without memory")
	}
}

// TestNoWaiting: wherever the others stand, a worker that goes on alone looks
// at each node it gets to the end, and is idle only when there is none to get.
func TestNoWaiting(t *testing.T) { // P33.3
	for seed := range 300 {
		d := sample.New(seed)
		s := d.Any()
		l, _ := layout.Of(s, 3)
		var nodes []uint64
		for v := range s.Nodes {
			nodes = append(nodes, uint64(v))
		}
		m := fill(l, nodes...)
		var all []*worker.Worker
		for who := range 3 {
			w, _ := worker.New(s, l, who)
			all = append(all, w)
		}
		for range d.Below(60) {
			all[1+d.Below(2)].Step(m, d.Below(9))
		}
		w := all[0]
		most := 2 + l.Words + s.Nodes*(2*l.Words+2+4) // clear, read, and join, take, push; retire
		looked, idle := 0, 0
		for k := range 20000 {
			if w.Step(m, k) {
				break
			}
			if _, looks := w.Node(); looks {
				looked++
				idle = 0
			} else {
				looked = 0
				idle++
			}
			if looked > most {
				t.Fatal(seed, "it waits")
			}
			if idle > 100 && len(l.Deque(0).List(m))+len(l.Deque(1).List(m))+len(l.Deque(2).List(m)) > 0 {
				t.Fatal(seed, "it leaves nodes")
			}
			if idle > 200 {
				break
			}
		}
	}
}
