package cell_test

import (
	"math"
	"slices"
	"testing"

	"sough/api"
	"sough/cell"
	"sough/constant"
	"sough/lattice"
	"sough/mem"
	"sough/record"
	"sough/sample"
)

func TestCell(t *testing.T) { // P30.1
	m := mem.NewPlain(5)
	m.Store(4, 9)
	c := cell.Cell{Base: 1, What: api.May, Words: 3}
	m.Store(3, 8)
	c.Put(m, []uint64{5, 6})
	if !slices.Equal(mem.All(m), []uint64{0, 5, 6, 0, 9}) || !slices.Equal(c.Get(m), []uint64{5, 6, 0}) {
		t.Error(mem.All(m))
	}
	c.Put(m, []uint64{1, 2, 3, 4})
	if !slices.Equal(mem.All(m), []uint64{0, 1, 2, 3, 9}) {
		t.Error(mem.All(m))
	}
	for words, want := range map[int]int{0: 0, -1: 0, math.MinInt: 0, 1024: 1024, 1025: 1024, math.MaxInt: 1024} {
		if got := (cell.Cell{Words: words}).Get(m); len(got) != want {
			t.Error(words, len(got))
		}
		(cell.Cell{Base: math.MaxInt, Words: words}).Put(nil, []uint64{1})
		if got := (cell.Cell{Words: words}).Get(nil); len(got) != want {
			t.Error(words, len(got))
		}
	}
}

func TestJoin(t *testing.T) { // P30.2
	for i, c := range []struct {
		what    int
		was, a  []uint64
		want    []uint64
		steps   int
		changed bool
	}{
		{api.May, []uint64{2}, []uint64{1}, []uint64{3}, 2, true},
		{api.May, []uint64{3}, []uint64{1}, []uint64{3}, 1, false},
		{api.Must, []uint64{6, 6}, []uint64{3, 7}, []uint64{2, 6}, 3, true},
		{api.Must, []uint64{6, 6}, []uint64{7}, []uint64{6, 0}, 3, true},
		{api.Flat, []uint64{0, 6, 6, 1}, []uint64{6, 6, 2, 2}, []uint64{6, 6, 1, 1}, 6, true},
		{api.May, nil, []uint64{5}, nil, 1, false},
		{9, []uint64{7, 0}, []uint64{7, 7}, []uint64{0, 0}, 3, true},
	} {
		p := mem.NewPlain(len(c.was))
		l := record.New(p)
		place := cell.Cell{What: c.what, Words: len(c.was)}
		place.Put(p, c.was)
		j := &cell.Join{C: place, A: c.a}
		for k := 1; ; k++ {
			done := j.Step(l, 0)
			if done != (k == c.steps) || j.Ended != done || l.Count() > k {
				t.Fatal(i, k, done)
			}
			if done {
				break
			}
		}
		count := l.Count()
		if !slices.Equal(mem.All(p), c.want) || j.Changed != c.changed || j.Tries != 0 || len(c.was) == 0 && count != 0 {
			t.Error(i, mem.All(p), j)
		}
		if !j.Step(l, 0) || l.Count() != count {
			t.Error(i, "ended")
		}
	}
	m := mem.NewPlain(1)
	l := record.New(m)
	j := &cell.Join{C: cell.Cell{What: api.May, Words: 1}, A: []uint64{1}}
	j.Step(l, 0)
	m.Store(0, 4)
	if j.Step(l, 0) || j.Tries != 1 || j.Changed || j.Ended {
		t.Error(j)
	}
	j.Step(l, 0)
	if !j.Step(l, 0) || j.Tries != 1 || !j.Changed || m.Load(0) != 5 {
		t.Error(j)
	}
	want := []record.Event{{Kind: record.Load}, {Kind: record.CAS, B: 1}, {Kind: record.Load, Got: 4}, {Kind: record.CAS, A: 4, B: 5, OK: true}}
	if !slices.Equal(l.Events(), want) {
		t.Error(l.Events())
	}
	j = &cell.Join{C: cell.Cell{What: api.May, Words: 1}, A: []uint64{1}}
	j.Step(m, 0)
	m.Store(0, 7)
	j.Step(m, 0)
	if j.Step(m, 0); j.Changed || !j.Ended {
		t.Error("another one did it", j)
	}
}

func TestRead(t *testing.T) { // P30.2
	m := mem.NewPlain(4)
	c := cell.Cell{Base: 1, Words: 2}
	c.Put(m, []uint64{5, 6})
	r := &cell.Read{C: c, A: []uint64{99}}
	if r.Step(m, 0) || !slices.Equal(r.A, []uint64{5}) {
		t.Error(r)
	}
	c.Put(m, []uint64{7, 8})
	if !r.Step(m, 0) || !r.Ended || !slices.Equal(r.A, []uint64{5, 8}) || !r.Step(m, 0) || len(r.A) != 2 {
		t.Error(r)
	}
	l := record.New(m)
	r = &cell.Read{}
	if !r.Step(l, 0) || !r.Ended || l.Count() != 0 || len(r.A) != 0 {
		t.Error(r)
	}
	var nj *cell.Join
	var nr *cell.Read
	if !nj.Step(l, 0) || !nr.Step(l, 0) || l.Count() != 0 {
		t.Error("nil")
	}
	if r := (&cell.Read{C: c}); r.Step(nil, 0) || !r.Step(nil, 0) || !slices.Equal(r.A, []uint64{0, 0}) {
		t.Error(r)
	}
	if j := (&cell.Join{C: cell.Cell{What: api.May, Words: 1}, A: []uint64{1}}); j.Step(nil, 0) || j.Step(nil, 0) || j.Tries != 1 {
		t.Error(j)
	}
}

func TestAnyOrder(t *testing.T) { // P30.3
	for seed := range 1000 {
		d := sample.New(seed)
		what, width := 1+d.Below(3), 1+d.Below(3)
		if what != api.Flat {
			width = 70
		}
		c := cell.Cell{What: what, Words: lattice.Words(what, width)}
		m := mem.NewPlain(c.Words)
		want := lattice.Bottom(what, width)
		c.Put(m, want)
		var all []*cell.Join
		for range 4 {
			a := d.Value(what, width)
			all = append(all, &cell.Join{C: c, A: a})
			want, _ = lattice.Join(what, width, want, a)
		}
		rose, steps := 0, 0
		for left := 4; left > 0; steps++ {
			j := all[d.Below(4)]
			if j.Ended {
				continue
			}
			ahead := c.Get(m)
			if j.Step(m, 0) {
				left--
			}
			now := c.Get(m)
			if !lattice.Below(what, width, ahead, now) || steps > 10000 {
				t.Fatal(seed, ahead, now)
			}
			if !slices.Equal(ahead, now) {
				rose++
			}
		}
		changed := 0
		for _, j := range all {
			if j.Changed {
				changed++
			}
		}
		bottom := slices.Equal(want, lattice.Bottom(what, width))
		if !slices.Equal(c.Get(m), want) || changed > rose || (changed == 0) != bottom {
			t.Fatal(seed, c.Get(m), want, changed, rose)
		}
	}
	if constant.Never != 0 {
		t.Error("the word that isn't there")
	}
}
