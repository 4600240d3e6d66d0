package sched_test

import (
	"math"
	"reflect"
	"slices"
	"testing"

	"sough/api"
	"sough/mem"
	"sough/sample"
	"sough/sched"
	"sough/step"
)

// counter is done behind so many Steps; it adds what it drew to the word 0.
type counter struct {
	left  int
	drawn []int
}

func (c *counter) Step(m mem.Mem, draw int) bool {
	c.left--
	c.drawn = append(c.drawn, draw)
	m.Add(0, uint64(draw))
	return c.left <= 0
}

func picks(l ...int) []api.Pick {
	var out []api.Pick
	for i, w := range l {
		out = append(out, api.Pick{Worker: w, Draw: 10 + i})
	}
	return out
}

func TestWho(t *testing.T) { // P25.1
	for i, c := range []struct{ worker, n, want int }{{0, 2, 0}, {3, 2, 1}, {-1, 2, 1}, {-1, 64, 63}, {5, 0, 0}, {5, -3, 0}, {7, 1, 0}, {-7, 3, 2},
		{math.MinInt, 3, 1}, {math.MaxInt, 3, 1}, {math.MaxInt, math.MaxInt, 0}, {5, math.MaxInt, 5}} {
		if got := sched.Who(api.Pick{Worker: c.worker, Draw: 9}, c.n); got != c.want {
			t.Error(i, got)
		}
	}
}

func TestRun(t *testing.T) { // P25.1
	a, b := &counter{left: 2}, &counter{left: 9}
	m := mem.NewPlain(1)
	r := sched.Run(m, []step.Machine{a, b}, picks(0, 3, -1, 0, 0, 2, 1))
	if !reflect.DeepEqual(r, sched.Result{Steps: []int{2, 3}, Done: []bool{true, false}, Used: 7}) || !slices.Equal(a.drawn, []int{10, 13}) || !slices.Equal(b.drawn, []int{11, 12, 16}) ||
		m.Load(0) != 10+13+11+12+16 || sched.Finished(r) {
		t.Error(r, a, b)
	}
	a, b = &counter{left: 2}, &counter{left: 1}
	r = sched.Run(nil, []step.Machine{nil, a, nil, b}, picks(0, 1, 2, 3, 3, 1, 1, 1))
	if !reflect.DeepEqual(r, sched.Result{Steps: []int{0, 2, 0, 1}, Done: []bool{true, true, true, true}, Used: 6}) || !sched.Finished(r) {
		t.Error(r)
	}
	var none *step.Prog
	r = sched.Run(nil, []step.Machine{none, nil}, picks(1, 0, 0))
	if !reflect.DeepEqual(r, sched.Result{Steps: []int{1, 0}, Done: []bool{true, true}, Used: 2}) {
		t.Error(r)
	}
	for i, l := range [][]step.Machine{nil, {}, {nil, nil}} {
		if r := sched.Run(m, l, picks(0, 1, 2)); r.Used != 0 || !sched.Finished(r) || len(r.Steps) != len(l) {
			t.Error(i, r)
		}
	}
	if r := sched.Run(m, []step.Machine{&counter{}}, nil); r.Used != 0 || sched.Finished(r) || !slices.Equal(r.Done, []bool{false}) {
		t.Error(r)
	}
}

func TestEach(t *testing.T) { // P25.2
	var seen, word []int
	m := mem.NewPlain(1)
	r := sched.Each(m, []step.Machine{&counter{left: 1}, &counter{left: 2}}, picks(0, 0, 1, 1, 1, 1), func(i int) {
		seen = append(seen, i)
		word = append(word, int(m.Load(0)))
	})
	if !slices.Equal(seen, []int{1, 2, 3, 4}) || !slices.Equal(word, []int{10, 10, 22, 35}) || r.Used != 4 {
		t.Error(seen, word, r)
	}
	for i, c := range []struct {
		done []bool
		want bool
	}{{nil, true}, {[]bool{true}, true}, {[]bool{true, false}, false}} {
		if sched.Finished(sched.Result{Done: c.done}) != c.want {
			t.Error(i)
		}
	}
}

func TestBeginnings(t *testing.T) { // P25.3
	for seed := range 100 {
		d := sample.New(seed)
		var progs [3][]step.Instr
		for i := range progs {
			for range 1 + d.Below(6) {
				progs[i] = append(progs[i], step.Instr{Op: 1 + d.Below(9), R: d.Below(4), At: d.Below(4), N: uint64(d.Below(3))})
			}
		}
		script := d.Script(5, 30)
		run := func(k int) (sched.Result, []uint64) {
			m := mem.NewPlain(3)
			var l []step.Machine
			for i := range progs {
				l = append(l, step.New(progs[i]))
			}
			return sched.Run(m, l, script[:k:k]), mem.All(m)
		}
		m := mem.NewPlain(3)
		var l []step.Machine
		for i := range progs {
			l = append(l, step.New(progs[i]))
		}
		sched.Each(m, l, script, func(k int) {
			r, words := run(k)
			if r.Used != k || !slices.Equal(words, mem.All(m)) {
				t.Fatal(seed, k, r, words)
			}
		})
	}
}
