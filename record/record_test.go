package record_test

import (
	"slices"
	"testing"

	"sough/mem"
	"sough/record"
	"sough/sample"
)

func TestLog(t *testing.T) { // P23.1
	p := mem.NewPlain(2)
	l := record.New(p)
	l.Store(0, 5)
	l.Load(0)
	l.CAS(0, 5, 7)
	l.CAS(0, 5, 8)
	l.Add(0, 3)
	l.Load(9)
	l.Store(-1, 4)
	want := []record.Event{
		{Kind: record.Store, A: 5}, {Kind: record.Load, Got: 5}, {Kind: record.CAS, A: 5, B: 7, OK: true}, {Kind: record.CAS, A: 5, B: 8},
		{Kind: record.Add, A: 3, Got: 10}, {Kind: record.Load, At: 9}, {Kind: record.Store, At: -1, A: 4}}
	if !slices.Equal(l.Events(), want) || l.Count() != 7 || l.Len() != 2 || p.Load(0) != 10 {
		t.Error(l.Events())
	}
	l.Events()[0].A = 99
	if !slices.Equal(l.Events(), want) || record.Load != 1 || record.Store != 2 || record.CAS != 3 || record.Add != 4 {
		t.Error("shared")
	}
	over := record.New(l)
	if over.Load(0) != 10 || over.Count() != 1 || l.Count() != 8 {
		t.Error("a log of a log")
	}
	if m := record.New(mem.NewShared(1)); m.Add(0, 2) != 2 || m.Load(0) != 2 || m.Count() != 2 {
		t.Error("shared memory")
	}
}

func TestNobodys(t *testing.T) { // P23.1
	var none *record.Log
	for i, l := range []*record.Log{none, new(record.Log), record.New(nil)} {
		l.Store(0, 5)
		if l.Len() != 0 || l.Load(0) != 0 || l.CAS(0, 0, 5) || l.Add(0, 5) != 0 || l.Count() != 0 || len(l.Events()) != 0 {
			t.Error(i)
		}
	}
	var p *mem.Plain
	for i, m := range []mem.Mem{p, none, new(mem.Shared)} {
		l := record.New(m)
		l.Store(0, 5)
		if l.Len() != 0 || l.Load(0) != 0 || l.Count() != 2 {
			t.Error(i, l.Count())
		}
	}
}

func TestRight(t *testing.T) { // P23.2
	store := record.Event{Kind: record.Store, At: 1, A: 5}
	for i, c := range []struct {
		n    int
		l    []record.Event
		want bool
	}{
		{0, nil, true}, {-5, nil, true},
		{2, []record.Event{store, {Kind: record.Load, At: 1, Got: 5}}, true},
		{1, []record.Event{store, {Kind: record.Load, At: 1, Got: 5}}, false},
		{1, []record.Event{store, {Kind: record.Load, At: 1}}, true},
		{2, []record.Event{{Kind: record.Load, At: 1, Got: 5}, store}, false},
		{2, []record.Event{{Kind: record.CAS, A: 0, B: 3, OK: true}, {Kind: record.CAS, A: 0, B: 4}, {Kind: record.Add, A: 1, Got: 4}}, true},
		{2, []record.Event{{Kind: record.CAS, A: 1, B: 3, OK: true}}, false},
		{2, []record.Event{{Kind: record.CAS, A: 0, B: 3}}, false},
		{2, []record.Event{{Kind: record.Add, A: 1, Got: 2}}, false},
		{2, []record.Event{{Kind: record.Store, A: 1, Got: 1}}, false}, {2, []record.Event{{Kind: record.Store, A: 1, B: 1}}, false}, {2, []record.Event{{Kind: record.Store, A: 1, OK: true}}, false},
		{2, []record.Event{{Kind: record.Load, A: 1}}, false}, {2, []record.Event{{Kind: record.Load, B: 1}}, false}, {2, []record.Event{{Kind: record.Load, OK: true}}, false},
		{2, []record.Event{{Kind: record.Add, A: 1, B: 1, Got: 1}}, false}, {2, []record.Event{{Kind: record.Add, A: 1, Got: 1, OK: true}}, false}, {2, []record.Event{{Kind: record.CAS, B: 3, Got: 1, OK: true}}, false},
		{2, []record.Event{{}}, false}, {2, []record.Event{{Kind: 5}}, false}, {2, []record.Event{{Kind: -1}}, false},
	} {
		if record.Right(c.n, c.l) != c.want {
			t.Error(i)
		}
	}
	l := []record.Event{{Kind: record.Load, At: 7}, {Kind: record.CAS, At: -2}, store, {Kind: record.CAS, At: 7, OK: true}, {Kind: record.Add, At: 7}, {Kind: 9, At: 3}, {At: 1}}
	if got := record.Touched(l); !slices.Equal(got, []int{-2, 1, 3, 7}) || len(record.Touched(nil)) != 0 {
		t.Error(got)
	}
	if got := record.Writes(l); !slices.Equal(got, []record.Event{l[2], l[3], l[4]}) || len(record.Writes(nil)) != 0 {
		t.Error(got)
	}
}

func TestNoted(t *testing.T) { // P23.3
	for seed := range 100 {
		d := sample.New(seed)
		p := mem.NewPlain(3)
		l := record.New(p)
		for range 60 {
			a, x := d.Below(5)-1, uint64(d.Below(3))
			ahead, writes := mem.All(p), len(record.Writes(l.Events()))
			switch d.Below(4) {
			case 0:
				l.Store(a, x)
			case 1:
				l.CAS(a, x, x+1)
			case 2:
				l.Add(a, x)
			case 3:
				l.Load(a)
			}
			if !slices.Equal(ahead, mem.All(p)) && len(record.Writes(l.Events())) == writes {
				t.Fatal(l.Events())
			}
		}
		if !record.Right(3, l.Events()) {
			t.Fatal(l.Events())
		}
		again := mem.NewPlain(3)
		for _, e := range record.Writes(l.Events()) {
			switch e.Kind {
			case record.Store:
				again.Store(e.At, e.A)
			case record.Add:
				again.Add(e.At, e.A)
			case record.CAS:
				again.CAS(e.At, e.A, e.B)
			}
		}
		if !slices.Equal(mem.All(again), mem.All(p)) {
			t.Fatal(mem.All(again), mem.All(p))
		}
	}
}
