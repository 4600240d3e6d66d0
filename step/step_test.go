package step_test

import (
	"math"
	"reflect"
	"testing"

	"sough/mem"
	"sough/record"
	"sough/sample"
	"sough/step"
)

type in = step.Instr

func TestProg(t *testing.T) { // P24.1, P24.2
	m := mem.NewPlain(3)
	l := []in{{Op: step.Set, N: 5}, {Op: step.Store}, {Op: step.Halt}}
	p := step.New(l)
	l[0].N = 99
	if p.Done() || p.Step(m, 0) || p.Regs() != [4]uint64{5} || p.At() != 1 || !p.Step(m, 0) || m.Load(0) != 5 || p.At() != 2 || !p.Done() {
		t.Error(p.Regs(), p.At())
	}
	if !p.Step(m, 0) || p.At() != 2 || p.Regs() != [4]uint64{5} {
		t.Error("done")
	}
	for i, c := range []struct {
		at   in
		regs [4]uint64
		word uint64
		to   int
	}{
		{in{Op: step.Load, R: 1, At: 1}, [4]uint64{1, 40, 3, 0}, 40, 5},
		{in{Op: step.Store, R: 2, At: 1}, [4]uint64{1, 2, 3, 0}, 3, 5},
		{in{Op: step.CAS, R: 0, At: 1}, [4]uint64{0, 2, 3, 0}, 40, 5},
		{in{Op: step.Add, R: 2, At: 1, N: math.MaxUint64}, [4]uint64{1, 2, 39, 0}, 39, 5},
		{in{Op: step.Add, R: 2, At: 9, N: 7}, [4]uint64{1, 2, 0, 0}, 40, 5},
		{in{Op: step.Load, R: 2, At: -1}, [4]uint64{1, 2, 0, 0}, 40, 5},
		{in{Op: step.Set, R: 3, N: 8}, [4]uint64{1, 2, 3, 8}, 40, 5},
		{in{Op: step.Set, R: -1, N: 8}, [4]uint64{1, 2, 3, 8}, 40, 5},
		{in{Op: step.Set, R: 6, N: 8}, [4]uint64{1, 2, 8, 0}, 40, 5},
		{in{Op: step.Set, R: math.MinInt, N: 8}, [4]uint64{8, 2, 3, 0}, 40, 5},
		{in{Op: step.Plus, R: 1, N: math.MaxUint64}, [4]uint64{1, 1, 3, 0}, 40, 5},
		{in{Op: step.Jump, At: 2}, [4]uint64{1, 2, 3, 0}, 40, 2},
		{in{Op: step.Jump, At: -7}, [4]uint64{1, 2, 3, 0}, 40, -7},
		{in{Op: step.Jump, At: 70}, [4]uint64{1, 2, 3, 0}, 40, 70},
		{in{Op: step.Zero, R: 3, At: 1}, [4]uint64{1, 2, 3, 0}, 40, 1},
		{in{Op: step.Zero, R: 2, At: 1}, [4]uint64{1, 2, 3, 0}, 40, 5},
		{in{Op: step.Draw, R: 1}, [4]uint64{1, math.MaxUint64, 3, 0}, 40, 5},
		{in{Op: 10, R: 1}, [4]uint64{1, 2, 3, 0}, 40, 5},
		{in{Op: -1, R: 1}, [4]uint64{1, 2, 3, 0}, 40, 5},
	} {
		m := mem.NewPlain(2)
		m.Store(1, 40)
		p := step.New([]in{{Op: step.Set, R: 0, N: 1}, {Op: step.Set, R: 1, N: 2}, {Op: step.Set, R: 2, N: 3}, {Op: 77}, c.at, {Op: 77}})
		for range 4 {
			p.Step(m, 5)
		}
		done := p.Step(m, -1)
		if p.Regs() != c.regs || m.Load(1) != c.word || p.At() != c.to || done != (c.to < 0 || c.to > 5) || p.Done() != done {
			t.Error(i, p.Regs(), m.Load(1), p.At(), done)
		}
	}
	p = step.New([]in{{Op: step.Set, R: 3, N: 0}, {Op: step.Set, R: 0, N: 9}, {Op: step.CAS, R: 3, At: 2}})
	p.Step(m, 0)
	p.Step(m, 0)
	if !p.Step(m, 0) || p.Regs() != [4]uint64{9, 0, 0, 1} || m.Load(2) != 9 || p.At() != 3 {
		t.Error(p.Regs())
	}
}

func TestNobodys(t *testing.T) { // P24.2
	var none *step.Prog
	for i, p := range []*step.Prog{none, new(step.Prog), step.New(nil), step.New([]in{{}})} {
		if !p.Done() || !p.Step(mem.NewPlain(1), 3) || p.At() != 0 || p.Regs() != [4]uint64{} {
			t.Error(i)
		}
	}
	p := step.New([]in{{Op: step.Add, N: 5}, {Op: step.Store}})
	if p.Step(nil, 0) || !p.Step(nil, 0) || p.Regs() != [4]uint64{} {
		t.Error("no memory")
	}
	q := *step.New([]in{{Op: step.Set, N: 3}, {Op: step.Jump}})
	for range 100 {
		if q.Step(nil, 0) {
			t.Fatal("a ring")
		}
	}
}

// noted tells what a machine of these instructions asked, and came to.
func noted(l []in, draws []int, at uint64) ([]record.Event, [4]uint64, int, bool) {
	m := mem.NewPlain(3)
	m.Store(0, at)
	log := record.New(m)
	p := step.New(l)
	once := true
	for _, d := range draws {
		ahead := log.Count()
		p.Step(log, d)
		once = once && log.Count() <= ahead+1
	}
	return log.Events(), p.Regs(), p.At(), once
}

func TestOnce(t *testing.T) { // P24.3
	for seed := range 200 {
		d := sample.New(seed)
		var l []in
		for range 1 + d.Below(8) {
			l = append(l, in{Op: d.Below(11), R: d.Below(9) - 4, At: d.Below(5) - 1, N: uint64(d.Below(3))})
		}
		var draws []int
		for range 30 {
			draws = append(draws, d.Below(3)-1)
		}
		a, ra, at, once := noted(l, draws, 1)
		b, rb, bt, _ := noted(l, draws, 1)
		if !once || !reflect.DeepEqual(a, b) || ra != rb || at != bt {
			t.Fatal(l, a, b)
		}
	}
}
