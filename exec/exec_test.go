package exec_test

import (
	"reflect"
	"slices"
	"testing"

	"sough/api"
	"sough/exec"
	"sough/gauss"
	"sough/grammar"
	"sough/proper"
	"sough/sample"
)

func n(re, im int) api.Num { return api.Num{Re: re, Im: im} }

func v(s string) api.Atom { return api.Atom{Var: s} }

func parse(t *testing.T, s string) api.Program {
	p, f := grammar.Parse(s)
	if f.E != api.OK {
		t.Fatal(f)
	}
	return p
}

const loop = "block a { in n; goto b; } block b { m = n * 2; n = n - 1; out n; if n then b else c; } block c { out m; ret; }"

func TestValues(t *testing.T) { // P8.1
	p := parse(t, loop)
	if s := exec.Start(p); s.Block != 0 || s.In != 0 || len(s.Out) != 0 || !slices.Equal(s.E, exec.Env{{}, {}}) {
		t.Error(s)
	}
	if s := exec.Start(api.Program{}); len(s.E) != 0 {
		t.Error(s)
	}
	e := exec.Env{n(3, 4), n(5, 0)}
	for i, c := range []struct {
		e    exec.Env
		a    api.Atom
		want api.Num
	}{{e, v("m"), n(3, 4)}, {e, v("n"), n(5, 0)}, {e, v("q"), n(0, 0)}, {e[:1], v("n"), n(0, 0)}, {nil, v("m"), n(0, 0)},
		{e, api.Atom{N: n(32768, 65537)}, n(-32768, 1)}, {nil, api.Atom{}, n(0, 0)}, {e, api.Atom{Var: "q", N: n(1, 1)}, n(0, 0)}} {
		if got := exec.Value(p, c.e, c.a); got != c.want {
			t.Error(i, got)
		}
	}
	for op := -1; op < 6; op++ {
		want, we := gauss.Op(op, e[0], e[1])
		if got, ge := exec.Eval(p, e, api.Expr{Op: op, A: v("m"), B: v("n")}); got != want || ge != we {
			t.Error(op, got, ge)
		}
	}
}

func TestBlock(t *testing.T) { // P8.2
	p := parse(t, "block a { in x; y = x * x; out y; in x; out x; out 7; if x then b else a; } block b { goto a; } block c { ret; }")
	s := exec.State{E: exec.Env{n(9, 9), n(8, 8)}, In: 1, Out: []api.Num{n(1, 1)}}
	kept := exec.State{E: slices.Clone(s.E), In: 1, Out: slices.Clone(s.Out)}
	got, e := exec.Block(p, s, []api.Num{n(5, 5), n(65536, 65537)})
	want := exec.State{E: exec.Env{n(0, 0), n(-1, 0)}, In: 3, Out: []api.Num{n(1, 1), n(-1, 0), n(0, 0), n(7, 0)}}
	if e != api.OK || !reflect.DeepEqual(got, want) || !reflect.DeepEqual(s, kept) {
		t.Error(got, e, s)
	}
	for x, to := range map[api.Num]int{n(0, 0): 0, n(0, 1): 1, n(-5, 0): 1} {
		s.E[0] = x
		g, on, e := exec.Go(p, s)
		if g.Block != to || !on || e != api.OK || !slices.Equal(g.E, s.E) || !slices.Equal(g.Out, s.Out) || g.In != 1 {
			t.Error(x, g, on, e)
		}
	}
	s.Block = 1
	if g, on, e := exec.Go(p, s); g.Block != 0 || !on || e != api.OK {
		t.Error(g, on, e)
	}
	s.Block = 2
	if g, on, e := exec.Go(p, s); !reflect.DeepEqual(g, s) || on || e != api.OK {
		t.Error(g, on, e)
	}
	g, _, _ := exec.Go(p, s)
	g.E[0] = n(77, 7)
	g.Out[0] = n(77, 7)
	if s.E[0] == n(77, 7) || s.Out[0] == n(77, 7) {
		t.Error("shared")
	}
	s = exec.State{E: make(exec.Env, 2), In: 1<<31 - 2}
	if g, _ := exec.Block(p, s, nil); g.In != 1<<31-1 {
		t.Error(g.In)
	}
	s.In = 1<<31 - 1
	if g, _ := exec.Block(p, s, nil); g.In != 1<<31-1 {
		t.Error(g.In)
	}
}

func TestErrors(t *testing.T) { // P8.2, P8.3
	p := parse(t, loop)
	for i, c := range []struct {
		p    api.Program
		s    exec.State
		want api.Errno
	}{
		{p, exec.State{E: make(exec.Env, 2), Block: -1}, api.ErrState},
		{p, exec.State{E: make(exec.Env, 2), Block: 3}, api.ErrState},
		{p, exec.State{E: make(exec.Env, 1)}, api.ErrState},
		{p, exec.State{E: make(exec.Env, 3)}, api.ErrState},
		{p, exec.State{E: make(exec.Env, 2), In: -1}, api.ErrState},
		{api.Program{}, exec.State{Block: -1}, api.ErrLimit},
		{api.Program{L: []api.Block{{}}}, exec.State{Block: -1}, api.ErrForm},
	} {
		b, e1 := exec.Block(c.p, c.s, nil)
		g, on, e2 := exec.Go(c.p, c.s)
		r, e3 := exec.From(c.p, c.s, nil, 5)
		if e1 != c.want || e2 != c.want || e3 != c.want || on || !reflect.DeepEqual(b, exec.State{}) || !reflect.DeepEqual(g, exec.State{}) || !reflect.DeepEqual(r, exec.Run{}) {
			t.Error(i, e1, e2, e3)
		}
	}
	if r, e := exec.All(api.Program{}, nil, 5); e != api.ErrLimit || r.Visits != nil {
		t.Error(r, e)
	}
}

func TestRun(t *testing.T) { // P8.3
	p := parse(t, loop)
	r, e := exec.All(p, []api.Num{n(2, 0)}, 100)
	if e != api.OK || !r.Ended || len(r.Visits) != 4 || !slices.Equal(r.Out, []api.Num{n(1, 0), n(0, 0), n(2, 0)}) {
		t.Fatal(r, e)
	}
	if s := r.Visits[3]; s.Block != 2 || s.In != 1 || !slices.Equal(s.E, exec.Env{n(2, 0), n(0, 0)}) || len(s.Out) != 2 {
		t.Error(s)
	}
	if r, _ := exec.All(p, []api.Num{n(2, 0)}, 4); !r.Ended || len(r.Visits) != 4 {
		t.Error("the last of most blocks", r)
	}
	if r, _ := exec.All(p, []api.Num{n(2, 0)}, 3); r.Ended || len(r.Visits) != 3 || len(r.Out) != 2 {
		t.Error(r)
	}
	for _, most := range []int{0, -5} {
		s := exec.State{E: make(exec.Env, 2), Block: 2, Out: []api.Num{n(4, 4)}}
		if r, e := exec.From(p, s, nil, most); e != api.OK || r.Ended || len(r.Visits) != 0 || !slices.Equal(r.Out, s.Out) {
			t.Error(r, e)
		}
	}
	if r, _ := exec.All(p, nil, 1<<40); r.Ended || len(r.Visits) != api.MaxTrips {
		t.Error(len(r.Visits))
	}
	s := exec.State{E: make(exec.Env, 2), Block: 2, Out: []api.Num{n(4, 4)}}
	r, _ = exec.From(p, s, nil, 9)
	if !r.Ended || !slices.Equal(r.Out, []api.Num{n(4, 4), n(0, 0)}) {
		t.Error(r)
	}
	r.Visits[0].Out[0], r.Visits[0].E[0] = n(77, 7), n(77, 7)
	if r.Out[0] != n(4, 4) || s.Out[0] != n(4, 4) || s.E[0] != n(0, 0) {
		t.Error("shared")
	}
}

func TestBeginnings(t *testing.T) { // P8.4
	for seed := range 150 {
		d := sample.New(seed)
		p := d.Program(1+d.Below(5), 6, 1+d.Below(4))
		in := d.Nums(d.Below(6))
		whole, _ := exec.All(p, in, 30)
		s := exec.Start(p)
		for k, visit := range whole.Visits {
			if !reflect.DeepEqual(visit.E, s.E) || visit.Block != s.Block || visit.In != s.In || !slices.Equal(visit.Out, s.Out) {
				t.Fatal(seed, k, visit, s)
			}
			part, _ := exec.All(p, in, k)
			if !reflect.DeepEqual(part.Visits, whole.Visits[:k:k]) && k > 0 {
				t.Fatal(seed, k)
			}
			if !slices.Equal(part.Out, visit.Out) {
				t.Fatal(seed, k, part.Out)
			}
			rest := exec.State{Block: visit.Block, E: slices.Clone(visit.E)}
			left, _ := exec.From(p, rest, in[min(visit.In, len(in)):], 30-k)
			if len(left.Visits) != len(whole.Visits)-k || !slices.Equal(left.Out, whole.Out[len(visit.Out):]) {
				t.Fatal(seed, k, left.Out, whole.Out)
			}
			s, _ = exec.Block(p, s, in)
			s, _, _ = exec.Go(p, s)
		}
		if len(whole.Visits) < 30 && !whole.Ended || proper.Check(p) != api.OK {
			t.Fatal(seed)
		}
	}
}
