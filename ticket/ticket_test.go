package ticket_test

import (
	"math"
	"slices"
	"testing"

	"sough/mem"
	"sough/record"
	"sough/sample"
	"sough/ticket"
)

func TestBoard(t *testing.T) { // P31.1
	m := mem.NewPlain(5)
	b := ticket.Board{Flags: 1, Count: 4}
	for a, w := range []uint64{1, 1, 0, 2, math.MaxUint64} {
		m.Store(a, w)
	}
	for v, want := range map[int]bool{-1: false, 0: true, 1: false, 2: false, 9: false, math.MaxInt: false, math.MinInt: false} {
		if b.Waits(m, v) != want {
			t.Error(v)
		}
	}
	if b.Number(m) != -1 || b.Number(nil) != 0 || b.Waits(nil, 1) {
		t.Error(b.Number(m))
	}
}

type machine interface {
	Step(m mem.Mem, draw int) bool
}

func TestMachines(t *testing.T) { // P31.2
	b := ticket.Board{Flags: 1, Count: 3}
	for i, c := range []struct {
		x    machine
		want []record.Event
	}{
		{&ticket.Take{B: b, V: 0}, []record.Event{{Kind: record.CAS, At: 1, B: 1, OK: true}, {Kind: record.Add, At: 3, A: 1, Got: 6}}},
		{&ticket.Take{B: b, V: 1}, []record.Event{{Kind: record.CAS, At: 2, B: 1}}},
		{&ticket.Take{B: b, V: 90}, []record.Event{{Kind: record.CAS, At: 91, B: 1}}},
		{&ticket.Take{B: b, V: -1}, nil},
		{&ticket.Clear{B: b, V: 1}, []record.Event{{Kind: record.Store, At: 2}}},
		{&ticket.Clear{B: b, V: -1}, nil},
		{&ticket.Retire{B: b}, []record.Event{{Kind: record.Add, At: 3, A: math.MaxUint64, Got: 4}}},
		{&ticket.Quiet{B: b}, []record.Event{{Kind: record.Load, At: 3, Got: 5}}},
		{(*ticket.Take)(nil), nil}, {(*ticket.Clear)(nil), nil}, {(*ticket.Retire)(nil), nil}, {(*ticket.Quiet)(nil), nil},
	} {
		p := mem.NewPlain(4)
		p.Store(2, 1)
		p.Store(3, 5)
		l := record.New(p)
		for k := 1; ; k++ {
			done := c.x.Step(l, 0)
			if done != (k >= len(c.want)) || l.Count() > k {
				t.Fatal(i, k)
			}
			if done {
				break
			}
		}
		if !c.x.Step(l, 0) || !slices.Equal(l.Events(), c.want) {
			t.Error(i, l.Events())
		}
	}
	p := mem.NewPlain(4)
	take := &ticket.Take{B: b}
	if take.Step(p, 0) || !take.New || take.Ended || p.Load(3) != 0 || !take.Step(p, 0) || !take.New || !take.Ended || p.Load(3) != 1 {
		t.Error(take)
	}
	again := &ticket.Take{B: b}
	if !again.Step(p, 0) || again.New || !again.Ended || p.Load(3) != 1 {
		t.Error(again)
	}
	q := &ticket.Quiet{B: b}
	if q.Step(p, 0); q.Is || !q.Ended {
		t.Error(q)
	}
	r := &ticket.Retire{B: b}
	if r.Step(p, 0); r.Left != 0 || !r.Ended || p.Load(3) != 0 {
		t.Error(r)
	}
	r = &ticket.Retire{B: b}
	if r.Step(p, 0); r.Left != -1 {
		t.Error(r)
	}
	for i, x := range []machine{&ticket.Take{B: b}, &ticket.Clear{B: b}, &ticket.Retire{B: b}, &ticket.Quiet{B: b}} {
		if !x.Step(nil, 0) {
			t.Error(i, "no memory")
		}
	}
	q = &ticket.Quiet{B: ticket.Board{Count: 77}}
	if q.Step(p, 0); !q.Is {
		t.Error(q)
	}
	c := &ticket.Clear{B: b, V: 0}
	if c.Step(p, 0); *c != (ticket.Clear{B: b, Ended: true}) || b.Waits(p, 0) {
		t.Error(c)
	}
}

func TestOneIsNew(t *testing.T) { // P31.3
	for seed := range 300 {
		d := sample.New(seed)
		m := mem.NewPlain(4)
		b := ticket.Board{Flags: 0, Count: 3}
		var all []*ticket.Take
		for range 6 {
			all = append(all, &ticket.Take{B: b, V: d.Below(3)})
		}
		for range 100 {
			all[d.Below(6)].Step(m, 0)
		}
		var some, is [3]int
		for _, x := range all {
			if some[x.V] = 1; x.New {
				is[x.V]++
			}
			if !x.Ended {
				x.Step(m, 0)
				x.Step(m, 0)
			}
		}
		if some != is || b.Number(m) != some[0]+some[1]+some[2] {
			t.Fatal(some, is, b.Number(m))
		}
	}
}
