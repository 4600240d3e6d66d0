package deque_test

import (
	"math"
	"slices"
	"testing"

	"sough/deque"
	"sough/mem"
	"sough/record"
	"sough/sample"
)

type machine interface {
	Step(m mem.Mem, draw int) bool
}

// run steps a machine to its end, and tells how many Steps that took.
func run(t *testing.T, l *record.Log, x machine) int {
	for i := 1; i < 20; i++ {
		ahead := l.Count()
		done := x.Step(l, i)
		if l.Count() != ahead+1 {
			t.Fatal("a Step asks once")
		}
		if done {
			ahead = l.Count()
			if !x.Step(l, 0) || l.Count() != ahead {
				t.Fatal("ended")
			}
			return i
		}
	}
	t.Fatal("no end")
	return 0
}

func push(t *testing.T, l *record.Log, d deque.Deque, n uint64) (bool, int) {
	p := deque.Push{D: d, N: n}
	k := run(t, l, &p)
	if !p.Ended || p.N != n {
		t.Fatal(p)
	}
	return p.OK, k
}

func pop(t *testing.T, l *record.Log, d deque.Deque) (uint64, bool, int) {
	p := deque.Pop{D: d, N: 99}
	k := run(t, l, &p)
	if !p.Ended {
		t.Fatal(p)
	}
	return p.N, p.OK, k
}

func steal(t *testing.T, l *record.Log, d deque.Deque) (uint64, bool, int) {
	p := deque.Steal{D: d, N: 99}
	k := run(t, l, &p)
	if !p.Ended {
		t.Fatal(p)
	}
	return p.N, p.OK, k
}

func TestDeque(t *testing.T) { // P27.1
	for n, want := range map[int]int{1: 3, 5: 7, 4096: 4098, 4097: 4098, 0: 3, -9: 3, math.MaxInt: 4098, math.MinInt: 3} {
		if got := deque.Words(n); got != want {
			t.Error(n, got)
		}
	}
	m := mem.NewPlain(9)
	d := deque.Deque{Base: 2, Cap: 3}
	if d.Top(m) != 0 || len(d.List(m)) != 0 {
		t.Error("ahead of Reset")
	}
	d.Reset(m)
	if !slices.Equal(mem.All(m), []uint64{0, 0, 1, 1, 0, 0, 0, 0, 0}) || d.Top(m) != 1 || d.Bottom(m) != 1 || len(d.List(m)) != 0 {
		t.Error(mem.All(m))
	}
	for a, w := range []uint64{0, 0, 2, 5, 30, 31, 32} {
		m.Store(a, w)
	}
	if got := d.List(m); !slices.Equal(got, []uint64{32, 30, 31}) {
		t.Error(got)
	}
	m.Store(3, 100)
	if got := d.List(m); len(got) != 3 || d.Bottom(m) != 100 {
		t.Error(got)
	}
	m.Store(3, 1<<64-5)
	if got := d.List(m); len(got) != 0 || d.Bottom(m) != -5 {
		t.Error(got)
	}
	for i, d := range []deque.Deque{{}, {Base: -9, Cap: -9}, {Base: math.MaxInt, Cap: math.MaxInt}, {Base: math.MinInt}, {Base: 9}} {
		d.Reset(nil)
		if d.Top(nil) != 0 || d.Bottom(nil) != 0 || len(d.List(nil)) != 0 {
			t.Error(i)
		}
	}
}

func TestOps(t *testing.T) { // P27.2
	l := record.New(mem.NewPlain(4))
	d := deque.Deque{Cap: 2}
	d.Reset(l)
	if ok, k := push(t, l, d, 7); !ok || k != 4 {
		t.Error(ok, k)
	}
	if n, ok, k := pop(t, l, d); n != 7 || !ok || k != 6 {
		t.Error(n, ok, k)
	}
	if n, ok, k := pop(t, l, d); n != 0 || ok || k != 4 || d.Bottom(l) != 2 || d.Top(l) != 2 {
		t.Error(n, ok, k)
	}
	if n, ok, k := steal(t, l, d); n != 0 || ok || k != 2 {
		t.Error(n, ok, k)
	}
	push(t, l, d, 8)
	push(t, l, d, 9)
	if ok, k := push(t, l, d, 10); ok || k != 2 || !slices.Equal(d.List(l), []uint64{8, 9}) {
		t.Error(ok, k, d.List(l))
	}
	if n, ok, k := steal(t, l, d); n != 8 || !ok || k != 4 {
		t.Error(n, ok, k)
	}
	push(t, l, d, 11)
	if n, ok, k := pop(t, l, d); n != 11 || !ok || k != 4 || !slices.Equal(d.List(l), []uint64{9}) {
		t.Error(n, ok, k)
	}
	for i, x := range []machine{(*deque.Push)(nil), (*deque.Pop)(nil), (*deque.Steal)(nil)} {
		ahead := l.Count()
		if !x.Step(l, 0) || l.Count() != ahead {
			t.Error(i)
		}
	}
}

func TestNoMemory(t *testing.T) { // P27.2: all words are 0, so that nothing is there
	d := deque.Deque{Cap: 2}
	push, pop, steal := &deque.Push{D: d, N: 5}, &deque.Pop{D: d}, &deque.Steal{D: d}
	for i, c := range []struct {
		x     machine
		steps int
	}{{push, 4}, {pop, 4}, {steal, 2}} {
		for k := 1; k <= c.steps; k++ {
			if c.x.Step(nil, 0) != (k == c.steps) {
				t.Error(i, k)
			}
		}
	}
	if !push.OK || pop.OK || steal.OK {
		t.Error(push, pop, steal)
	}
}

// events are what a Step asks, one behind the other, of a deque with one number.
func TestThings(t *testing.T) { // P27.2
	const load, store, cas = record.Load, record.Store, record.CAS
	for i, c := range []struct {
		x    machine
		want []record.Event
	}{
		{&deque.Push{D: deque.Deque{Base: 1, Cap: 2}, N: 5}, []record.Event{{Kind: load, At: 2, Got: 3}, {Kind: load, At: 1, Got: 2}, {Kind: store, At: 4, A: 5}, {Kind: store, At: 2, A: 4}}},
		{&deque.Pop{D: deque.Deque{Base: 1, Cap: 2}}, []record.Event{{Kind: load, At: 2, Got: 3}, {Kind: store, At: 2, A: 2}, {Kind: load, At: 1, Got: 2}, {Kind: load, At: 3, Got: 40},
			{Kind: cas, At: 1, A: 2, B: 3, OK: true}, {Kind: store, At: 2, A: 3}}},
		{&deque.Steal{D: deque.Deque{Base: 1, Cap: 2}}, []record.Event{{Kind: load, At: 1, Got: 2}, {Kind: load, At: 2, Got: 3}, {Kind: load, At: 3, Got: 40}, {Kind: cas, At: 1, A: 2, B: 3, OK: true}}},
	} {
		p := mem.NewPlain(5)
		for a, w := range []uint64{0, 2, 3, 40, 41} {
			p.Store(a, w)
		}
		l := record.New(p)
		run(t, l, c.x)
		if !slices.Equal(l.Events(), c.want) {
			t.Error(i, l.Events())
		}
	}
}

func TestLost(t *testing.T) { // P27.2
	m := mem.NewPlain(4)
	d := deque.Deque{Cap: 2}
	begin := func() {
		d.Reset(m)
		m.Store(1, 2)
		m.Store(3, 7)
	}
	begin()
	p := &deque.Pop{D: d}
	for range 4 {
		p.Step(m, 0)
	}
	m.Store(0, 2) // a thief has it
	if p.Step(m, 0) || p.OK || !p.Step(m, 0) || p.OK || p.N != 0 || d.Bottom(m) != 2 {
		t.Error(p)
	}
	begin()
	p = &deque.Pop{D: d}
	for range 5 {
		p.Step(m, 0)
	}
	if p.OK || p.Ended || !p.Step(m, 0) || !p.OK || p.N != 7 {
		t.Error("told with the last thing alone", p)
	}
	begin()
	s := &deque.Steal{D: d}
	for range 3 {
		s.Step(m, 0)
	}
	m.Store(0, 2)
	if !s.Step(m, 0) || s.OK || s.N != 0 {
		t.Error(s)
	}
	m.Store(0, 1<<64-1) // indexes are held against each other as int
	m.Store(1, 0)
	if got := d.List(m); len(got) != 1 {
		t.Error(got)
	}
	s = &deque.Steal{D: d}
	for !s.Step(m, 0) {
	}
	if !s.OK || d.Top(m) != 0 {
		t.Error(s)
	}
}

func TestAnyOrder(t *testing.T) { // P27.3
	for seed := range 2000 {
		dice := sample.New(seed)
		d := deque.Deque{Base: 1, Cap: 1 + dice.Below(3)}
		m := mem.NewPlain(1 + deque.Words(d.Cap))
		d.Reset(m)
		var now [3]machine
		pushed, taken := map[uint64]int{}, map[uint64]int{}
		next := uint64(1)
		end := func(w int) {
			switch x := now[w].(type) {
			case *deque.Push:
				if x.OK {
					pushed[x.N]++
				}
			case *deque.Pop:
				if x.OK {
					taken[x.N]++
				}
			case *deque.Steal:
				if x.OK {
					taken[x.N]++
				}
			}
			now[w] = nil
		}
		begin := func(w int) {
			switch {
			case w > 0:
				now[w] = &deque.Steal{D: d}
			case dice.Below(2) == 0:
				now[w] = &deque.Push{D: d, N: next}
				next++
			default:
				now[w] = &deque.Pop{D: d}
			}
		}
		for range 120 {
			w := dice.Below(3)
			if now[w] == nil {
				begin(w)
			}
			if now[w].Step(m, 0) {
				end(w)
			}
		}
		for w := range now {
			for now[w] != nil {
				if now[w].Step(m, 0) {
					end(w)
				}
			}
		}
		for _, n := range d.List(m) {
			taken[n]++
		}
		for n := range next {
			if taken[n] != pushed[n] {
				t.Fatal(seed, n, taken[n], pushed[n])
			}
		}
	}
}
