package mem_test

import (
	"math"
	"slices"
	"sync"
	"testing"

	"sough/mem"
	"sough/sample"
)

func TestWords(t *testing.T) { // P22.1
	for _, m := range []mem.Mem{mem.NewPlain(3), mem.NewShared(3)} {
		if m.Len() != 3 || !slices.Equal(mem.All(m), []uint64{0, 0, 0}) {
			t.Error("new", mem.All(m))
		}
		if !m.CAS(0, 0, 5) || m.Add(0, 2) != 7 || m.CAS(0, 5, 9) || m.Load(0) != 7 {
			t.Error("example", mem.All(m))
		}
		m.Store(2, math.MaxUint64)
		if m.Add(2, 3) != 2 || m.Add(2, math.MaxUint64) != 1 || !slices.Equal(mem.All(m), []uint64{7, 0, 1}) {
			t.Error("round", mem.All(m))
		}
		for _, a := range []int{-1, 3, math.MaxInt, math.MinInt} {
			m.Store(a, 9)
			if m.Load(a) != 0 || m.CAS(a, 0, 9) || m.Add(a, 9) != 0 {
				t.Error("no such address", a)
			}
		}
		if !slices.Equal(mem.All(m), []uint64{7, 0, 1}) || mem.Or(m) != m {
			t.Error(mem.All(m))
		}
		mem.All(m)[0] = 99
		if m.Load(0) != 7 {
			t.Error("shared")
		}
	}
	for n, want := range map[int]int{0: 0, -1: 0, math.MinInt: 0, 1 << 20: 1 << 20, 1<<20 + 1: 1 << 20, math.MaxInt: 1 << 20} {
		if mem.NewPlain(n).Len() != want || mem.NewShared(n).Len() != want {
			t.Error(n)
		}
	}
}

func TestNobodys(t *testing.T) { // P22.1
	var p *mem.Plain
	var s *mem.Shared
	for i, m := range []mem.Mem{p, s, new(mem.Plain), new(mem.Shared), mem.Or(nil)} {
		m.Store(0, 5)
		if m.Len() != 0 || m.Load(0) != 0 || m.CAS(0, 0, 1) || m.Add(0, 1) != 0 || len(mem.All(m)) != 0 || mem.Or(m) != m {
			t.Error(i)
		}
	}
	if len(mem.All(nil)) != 0 || mem.Or(nil).Len() != 0 {
		t.Error("nil")
	}
}

func TestTogether(t *testing.T) { // P22.2
	m := mem.NewShared(3)
	var all sync.WaitGroup
	var won [8]int
	for w := range 8 {
		all.Go(func() {
			for i := range 2000 {
				m.Add(0, 3)
				if m.CAS(1, uint64(i), uint64(i+1)) {
					won[w]++
				}
				for {
					if x := m.Load(2); m.CAS(2, x, x+1) {
						break
					}
				}
			}
		})
	}
	all.Wait()
	sum := 0
	for _, k := range won {
		sum += k
	}
	if m.Load(0) != 48000 || m.Load(1) != uint64(sum) || m.Load(2) != 16000 {
		t.Error(mem.All(m), sum)
	}
}

func TestSame(t *testing.T) { // P22.3
	for seed := range 50 {
		d := sample.New(seed)
		p, s := mem.NewPlain(4), mem.NewShared(4)
		for range 200 {
			a, x, y := d.Below(6)-1, uint64(d.Below(3)), uint64(d.Below(3))-1
			switch d.Below(4) {
			case 0:
				p.Store(a, x)
				s.Store(a, x)
			case 1:
				if p.CAS(a, x, y) != s.CAS(a, x, y) {
					t.Fatal("cas")
				}
			case 2:
				if p.Add(a, y) != s.Add(a, y) {
					t.Fatal("add")
				}
			}
			if p.Load(a) != s.Load(a) || !slices.Equal(mem.All(p), mem.All(s)) {
				t.Fatal(mem.All(p), mem.All(s))
			}
		}
	}
}
