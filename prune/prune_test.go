package prune_test

import (
	"slices"
	"testing"

	"sough/api"
	"sough/exec"
	"sough/flow"
	"sough/grammar"
	"sough/printer"
	"sough/proper"
	"sough/prune"
	"sough/sample"
	"sough/tables"
)

func parse(t *testing.T, s string) api.Program {
	p, f := grammar.Parse(s)
	if f.E != api.OK {
		t.Fatal(s, f)
	}
	return p
}

func TestPrograms(t *testing.T) { // P47.1, P47.2
	for _, c := range []struct{ in, ends, program, merge string }{
		{"block a { if 0 then a else b; } block b { if (0,1) then a else b; } block c { if x then c else c; } block d { if x then c else d; }",
			"block a { goto b; } block b { goto a; } block c { goto c; } block d { if x then c else d; }", "block a { goto b; } block b { goto a; }", "block a { goto a; }"},
		{"block a { x = 1; goto c; } block b { y = 2; ret; } block c { z = 3; goto b; }", "", "", "block a { x = 1; z = 3; y = 2; ret; }"},
		{"block a { if x then b else c; } block b { y = 1; goto d; } block c { goto d; } block d { goto e; } block e { out y; goto f; } block f { if y then b else d; }",
			"", "", "block a { if x then b else c; } block b { y = 1; goto d; } block c { goto d; } block d { out y; if y then b else d; }"},
		{"block a { goto a; }", "", "", ""},
		{"block a { if x then a else b; } block b { goto b; }", "", "", ""},
		{"block a { goto b; } block b { x = 1; if x then a else c; } block c { goto a; }", "", "", "block a { x = 1; if x then a else c; } block c { goto a; }"},
		{"block a { ret; } block b { goto c; } block c { goto b; } block d { goto a; }", "", "block a { ret; }", "block a { ret; }"},
		{"block a { if 1 then b else b; } block b { if 0 then b else c; } block c { if x then b else c; }", "block a { goto b; } block b { goto c; } block c { if x then b else c; }",
			"block a { goto b; } block b { goto c; } block c { if x then b else c; }", ""},
	} {
		p := parse(t, c.in)
		kept := proper.Clone(p)
		want := p
		for i, f := range []func(api.Program) (api.Program, api.Errno){prune.Ends, prune.Program, prune.Merge} {
			if s := []string{c.ends, c.program, c.merge}[i]; s != "" {
				want = parse(t, s)
			}
			q, e := f(p)
			if e != api.OK || !proper.Same(q, want) || !proper.Same(p, kept) {
				s, _ := printer.Program(q)
				t.Error(c.in, i, s, e)
			}
			for b := range q.L {
				q.L[b].Name = "other"
				for k := range q.L[b].L {
					q.L[b].L[k].Var = "other"
				}
			}
			if !proper.Same(p, kept) {
				t.Error("shared", c.in, i)
			}
		}
	}
	for _, p := range []api.Program{{}, {L: []api.Block{{Name: "a", T: api.Term{Kind: 8}}}}} {
		for i, f := range []func(api.Program) (api.Program, api.Errno){prune.Ends, prune.Program, prune.Merge} {
			if q, e := f(p); e != proper.Check(p) || len(q.L) != 0 {
				t.Error(i, e)
			}
		}
	}
}

func TestSame(t *testing.T) { // P47.3
	ended, merged := 0, 0
	for seed := range 600 {
		d := sample.New(seed)
		p := d.Program(1+d.Below(7), 4, 1+d.Below(4))
		program, _ := prune.Program(p)
		merge, _ := prune.Merge(p)
		if again, _ := prune.Program(program); !proper.Same(again, program) || proper.Check(program) != api.OK {
			t.Fatal(seed, program)
		}
		if again, _ := prune.Merge(merge); !proper.Same(again, merge) || proper.Check(merge) != api.OK {
			t.Fatal(seed, merge)
		}
		merged += len(program.L) - len(merge.L)
		l := flow.Edges(merge)
		for a, b := range merge.L {
			if to, _ := tables.Block(merge, b.T.To); b.T.Kind == api.EndGoto && to != 0 && to != a && len(flow.Back(len(merge.L), l, to)) == 1 {
				t.Fatal(seed, merge)
			}
		}
		for range 3 {
			in := d.Nums(5)
			a, _ := exec.All(p, in, 40)
			b, _ := exec.All(program, in, 40)
			c, _ := exec.All(merge, in, 40)
			if a.Ended {
				ended++
			}
			if a.Ended && (!b.Ended || !c.Ended || !slices.Equal(a.Out, b.Out) || !slices.Equal(a.Out, c.Out)) {
				t.Fatal(seed, a.Out, b.Out, c.Out)
			}
		}
	}
	if ended < 300 || merged < 100 {
		t.Error(ended, merged)
	}
}
