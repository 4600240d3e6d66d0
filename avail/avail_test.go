package avail_test

import (
	"slices"
	"testing"

	"sough/api"
	"sough/avail"
	"sough/exec"
	"sough/flow"
	"sough/grammar"
	"sough/proper"
	"sough/sample"
	"sough/system"
	"sough/trips"
	"sough/wordset"
)

func parse(t *testing.T, s string) api.Program {
	p, f := grammar.Parse(s)
	if f.E != api.OK {
		t.Fatal(f)
	}
	return p
}

// Exprs: x * y 0, x + 1 1, conj y 2.
const text = "block a { z = x * y; x = x + 1; w = conj y; if z then b else c; } block b { z = x * y; in y; goto d; } block c { z = x * y; y = conj y; z = x * y; goto d; } block d { ret; } block e { out 2; goto e; }"

func TestSystem(t *testing.T) { // P40.1
	p := parse(t, text)
	s, e := avail.System(p)
	if e != api.OK || s.What != api.Must || s.Width != 3 || s.Nodes != 5 || !slices.Equal(s.Edges, flow.Edges(p)) || !slices.Equal(s.Entry, []int{0}) || !slices.Equal(s.Init, []uint64{0}) || system.Check(s) != api.OK {
		t.Error(s, e)
	}
	for b, want := range [][2][]int{{{2}, {0, 1}}, {nil, {0, 2}}, {{0}, {2}}, {nil, nil}, {nil, nil}} {
		if !slices.Equal(wordset.List(s.T[b].Gen), want[0]) || !slices.Equal(wordset.List(s.T[b].Kill), want[1]) {
			t.Error(b, s.T[b])
		}
	}
	for _, p := range []api.Program{{}, {L: []api.Block{{Name: "a", T: api.Term{Kind: 8}}}}} {
		want := proper.Check(p)
		s, e := avail.System(p)
		b, n, e2 := avail.Sets(p)
		if want == api.OK || e != want || e2 != want || s.Nodes != 0 || b != nil || n != nil {
			t.Error(e, e2)
		}
	}
}

func TestSets(t *testing.T) { // P40.2
	b, n, e := avail.Sets(parse(t, text))
	want := [][][]int{{nil, {2}, {2}, nil, {0, 1, 2}}, {{2}, nil, {0}, nil, {0, 1, 2}}}
	for i := range 5 {
		if e != api.OK || !slices.Equal(b[i], want[0][i]) || !slices.Equal(n[i], want[1][i]) {
			t.Error(i, b, n)
		}
	}
	if _, n, _ := avail.Sets(parse(t, "block a { z = x * 0; out 0; out x; ret; }")); !slices.Equal(n[0], []int{0}) {
		t.Error("what is put out changes nothing", n)
	}
	if b, _, _ := avail.Sets(parse(t, "block a { z = x * y; goto a; }")); len(b[0]) != 0 {
		t.Error("the beginning", b)
	}
}

func TestTrue(t *testing.T) { // P40.3
	some := 0
	for seed := range 400 {
		d := sample.New(seed)
		p := d.Program(1+d.Below(5), 6, 1+d.Below(4))
		in := d.Nums(5)
		r, _ := exec.All(p, in, 20)
		known, _ := trips.Known(p, in, 20)
		begins, _, _ := avail.Sets(p)
		for k, b := range trips.Blocks(r) {
			for _, x := range begins[b] {
				some++
				if !slices.Contains(known[k], x) {
					t.Fatal(seed, k, x, known[k])
				}
			}
		}
	}
	if some < 100 {
		t.Error(some)
	}
}
