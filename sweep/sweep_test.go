package sweep_test

import (
	"slices"
	"testing"

	"sough/api"
	"sough/exec"
	"sough/grammar"
	"sough/live"
	"sough/printer"
	"sough/proper"
	"sough/sample"
	"sough/sweep"
)

func parse(t *testing.T, s string) api.Program {
	p, f := grammar.Parse(s)
	if f.E != api.OK {
		t.Fatal(s, f)
	}
	return p
}

func TestIdle(t *testing.T) { // P46.1
	for s, want := range map[string][][2]int{
		"block a { x = 1; x = 2; out x; ret; }":                                                            {{0, 0}},
		"block a { x = 1; in x; out x; ret; }":                                                             {{0, 0}},
		"block a { x = 1; x = x + 1; out x; ret; }":                                                        nil,
		"block a { x = 1; ret; }":                                                                          {{0, 0}},
		"block a { x = 1; if x then a else a; }":                                                           nil,
		"block a { x = 1; in y; x = 2; if x then b else b; } block b { out x; goto b; }":                   {{0, 0}},
		"block a { x = 1; y = x; z = y; goto b; } block b { y = 2; out y; ret; }":                          {{0, 2}},
		"block a { in x; ret; }":                                                                           nil,
		"block a { x = 1; goto b; } block b { x = x; goto b; }":                                            nil,
		"block a { out x; x = 1; goto b; } block b { if 1 then a else b; } block c { x = 5; y = 6; ret; }": {{2, 0}, {2, 1}},
	} {
		p := parse(t, s)
		if l, e := sweep.Idle(p); !slices.Equal(l, want) || e != api.OK {
			t.Error(s, l, e)
		}
	}
	for _, p := range []api.Program{{}, {L: []api.Block{{Name: "a", T: api.Term{Kind: 8}}}}} {
		l, e := sweep.Idle(p)
		q, e2 := sweep.Program(p)
		r, k, e3 := sweep.Whole(p)
		if want := proper.Check(p); e != want || e2 != want || e3 != want || l != nil || len(q.L) != 0 || len(r.L) != 0 || k != 0 {
			t.Error(e, e2, e3)
		}
	}
}

func TestProgram(t *testing.T) { // P46.2
	p := parse(t, "block a { x = 1; y = x; z = y; in x; goto b; } block b { w = x; x = 3; out 1; ret; }")
	kept := proper.Clone(p)
	q, e := sweep.Program(p)
	if want := parse(t, "block a { x = 1; y = x; in x; goto b; } block b { out 1; ret; }"); e != api.OK || !proper.Same(q, want) {
		s, _ := printer.Program(q)
		t.Error(s, e)
	}
	q, k, e := sweep.Whole(p)
	if want := parse(t, "block a { in x; goto b; } block b { out 1; ret; }"); e != api.OK || !proper.Same(q, want) || k != 3 || !proper.Same(p, kept) {
		s, _ := printer.Program(q)
		t.Error(s, k, e)
	}
	q, k, _ = sweep.Whole(q)
	q.L[0].Name = "q"
	if k != 0 {
		t.Error(k)
	}
	q, _ = sweep.Program(p)
	q.L[0].L[0].Var = "other"
	r, _, _ := sweep.Whole(parse(t, "block a { in x; ret; }"))
	r.L[0].L[0].Var = "other"
	if !proper.Same(p, kept) {
		t.Error("shared")
	}
}

func TestSame(t *testing.T) { // P46.3
	swept := 0
	for seed := range 400 {
		d := sample.New(seed)
		p := d.Program(1+d.Below(5), 7, 1+d.Below(4))
		q, k, e := sweep.Whole(p)
		once, _ := sweep.Program(p)
		l, _ := sweep.Idle(q)
		if e != api.OK || proper.Check(q) != api.OK || len(l) != 0 || (k == 0) != proper.Same(p, q) {
			t.Fatal(seed, e, l)
		}
		swept += k
		for range 3 {
			in := d.Nums(5)
			a, _ := exec.All(p, in, 20)
			b, _ := exec.All(q, in, 20)
			c, _ := exec.All(once, in, 20)
			if !slices.Equal(a.Out, b.Out) || !slices.Equal(a.Out, c.Out) || a.Ended != b.Ended || len(a.Visits) != len(b.Visits) || len(a.Visits) != len(c.Visits) {
				t.Fatal(seed, a.Out, b.Out)
			}
		}
		idle, _ := sweep.Idle(p)
		for i, b := range p.L { // what isn't idle is asked for: behind it, or at the end
			for j, s := range b.L {
				rest := api.Program{L: append(slices.Clone(p.L), api.Block{Name: "rest", L: b.L[j+1:], T: b.T})}
				begins, _, _ := live.Sets(rest)
				if is := s.Kind == api.StSet && !slices.Contains(begins[len(p.L)], s.Var); is != slices.Contains(idle, [2]int{i, j}) {
					t.Fatal(seed, i, j, is)
				}
			}
		}
	}
	if swept < 100 {
		t.Error(swept)
	}
}
