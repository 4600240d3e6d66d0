package client_test

import (
	"slices"
	"strconv"
	"testing"

	"sough/api"
	"sough/avail"
	"sough/client"
	"sough/constant"
	"sough/grammar"
	"sough/least"
	"sough/live"
	"sough/prop"
	"sough/proper"
	"sough/reach"
	"sough/sample"
	"sough/system"
	"sough/tables"
	"sough/transfer"
)

func parse(t *testing.T, s string) api.Program {
	p, f := grammar.Parse(s)
	if f.E != api.OK {
		t.Fatal(f)
	}
	return p
}

const text = "block a { in x; y = x * x; z = 3; goto b; } block b { out y; w = y + z; if z then b else a; }"

func TestNames(t *testing.T) { // P42.1
	for kind, name := range map[int]string{api.Live: "live", api.Reach: "reach", api.Avail: "avail", api.Const: "const"} {
		if client.Name(kind) != name || client.Kind(name) != kind {
			t.Error(kind, name)
		}
	}
	for _, kind := range []int{0, -1, 5, 1 << 40} {
		if s, e := client.System(kind, parse(t, text)); client.Name(kind) != "" || e != api.ErrKind || s.Nodes != 0 {
			t.Error(kind)
		}
	}
	for _, name := range []string{"", "Live", "live ", "none", "0"} {
		if client.Kind(name) != 0 {
			t.Error(name)
		}
	}
	p := parse(t, text)
	for kind, f := range map[int]func(api.Program) (api.System, api.Errno){api.Live: live.System, api.Reach: reach.System, api.Avail: avail.System, api.Const: prop.System} {
		want, _ := f(p)
		s, e := client.System(kind, p)
		if e != api.OK || s.What != want.What || s.Width != want.Width || !slices.Equal(s.Edges, want.Edges) || !slices.Equal(s.Entry, want.Entry) || !slices.Equal(s.Init, want.Init) || !slices.EqualFunc(s.T, want.T, transfer.Same) {
			t.Error(kind, s, e)
		}
		if s, e := client.System(kind, api.Program{}); e != api.ErrLimit || s.Nodes != 0 {
			t.Error(kind, e)
		}
	}
	if _, e := client.System(9, api.Program{}); e != api.ErrKind {
		t.Error(e)
	}
}

func TestWords(t *testing.T) { // P42.2
	p := parse(t, text) // w x y z; sites: 4 beginnings, x@a.0 4, y@a.1 5, z@a.2 6, w@b.1 7; x * x, y + z
	num := constant.Of(api.Num{Re: 3, Im: -1})
	for i, c := range []struct {
		client int
		p      api.Program
		a      []uint64
		want   []string
	}{
		{api.Live, p, []uint64{0b1010}, []string{"x", "z"}}, {api.Live, p, []uint64{0xfff0}, nil}, {api.Live, p, nil, nil},
		{api.Reach, p, []uint64{0b10010001}, []string{"w@start", "x@a.0", "w@b.1"}}, {api.Avail, p, []uint64{3}, []string{"x * x", "y + z"}}, {api.Avail, p, []uint64{2}, []string{"y + z"}},
		{api.Const, p, []uint64{0, 1, num, 3}, []string{"w=!", "x=?", "y=(3,-1)", "z=?"}}, {api.Const, p, []uint64{0, 1}, []string{"w=!", "x=?"}}, {api.Const, p, make([]uint64, 9), []string{"w=!", "x=!", "y=!", "z=!"}},
		{api.Const, api.Program{}, []uint64{1}, nil}, {api.Reach, api.Program{}, []uint64{1}, nil},
	} {
		if got := client.Words(c.client, c.p, c.a); !slices.Equal(got, c.want) {
			t.Error(i, got)
		}
	}
	for _, kind := range []int{0, 5, -1} {
		if client.Words(kind, p, []uint64{1}) != nil {
			t.Error(kind)
		}
	}
}

func TestReport(t *testing.T) { // P42.2
	p := parse(t, text)
	for kind, want := range map[int]api.Report{
		api.Live:  {Client: api.Live, Rows: []api.Row{{Block: "a", Out: []string{"y", "z"}}, {Block: "b", In: []string{"y", "z"}, Out: []string{"y", "z"}}}},
		api.Avail: {Client: api.Avail, Rows: []api.Row{{Block: "a", Out: []string{"x * x"}}, {Block: "b", In: []string{"x * x"}, Out: []string{"x * x", "y + z"}}}},
		api.Const: {Client: api.Const, Rows: []api.Row{{Block: "a", In: []string{"w=?", "x=?", "y=?", "z=?"}, Out: []string{"w=?", "x=?", "y=?", "z=3"}}, {Block: "b", In: []string{"w=?", "x=?", "y=?", "z=3"}, Out: []string{"w=?", "x=?", "y=?", "z=3"}}}},
	} {
		s, _ := client.System(kind, p)
		a, _, _ := least.Solve(s)
		r, e := client.Report(kind, p, a)
		if e != api.OK || !client.Same(r, want) {
			t.Error(kind, r, e)
		}
		for i, bad := range [][][]uint64{nil, a[:1], append(slices.Clone(a), a[0]), {a[0], nil}} {
			if r, e := client.Report(kind, p, bad); e != api.ErrDomain || !client.Same(r, api.Report{}) {
				t.Error(kind, i, e)
			}
		}
	}
	if _, e := client.Report(0, api.Program{}, nil); e != api.ErrKind {
		t.Error(e)
	}
	if _, e := client.Report(api.Live, api.Program{}, nil); e != api.ErrLimit {
		t.Error(e)
	}
	a := api.Report{Client: 1, Rows: []api.Row{{Block: "a", In: []string{"x"}}}}
	for i, b := range []api.Report{{}, {Client: 2, Rows: a.Rows}, {Client: 1}, {Client: 1, Rows: []api.Row{{Block: "b", In: []string{"x"}}}}, {Client: 1, Rows: []api.Row{{Block: "a", Out: []string{"x"}}}},
		{Client: 1, Rows: []api.Row{{Block: "a", In: []string{"x", "y"}}}}} {
		if client.Same(a, b) || client.Same(b, a) || !client.Same(b, b) {
			t.Error(i)
		}
	}
	if !client.Same(a, api.Report{Client: 1, Rows: []api.Row{{Block: "a", In: []string{"x"}, Out: []string{}}}}) || !client.Same(api.Report{}, api.Report{Rows: []api.Row{}}) {
		t.Error("nil")
	}
}

// named tells the names of places.
func named(l []int, name func(i int) string) []string {
	var out []string
	for _, i := range l {
		out = append(out, name(i))
	}
	return out
}

func TestSets(t *testing.T) { // P42.3
	for seed := range 150 {
		d := sample.New(seed)
		p := d.Program(1+d.Below(5), 6, 1+d.Below(4))
		sites, exprs, vars := tables.Sites(p), tables.Exprs(p), proper.Vars(p)
		lb, le, _ := live.Sets(p)
		rb, re, _ := reach.Sets(p)
		ab, ae, _ := avail.Sets(p)
		cb, ce, _ := prop.Sets(p)
		site := func(i int) string { return tables.SiteName(p, sites[i]) }
		expr := func(i int) string { return tables.ExprName(exprs[i]) }
		known := func(a []uint64) []string {
			var out []string
			for i, w := range a {
				out = append(out, vars[i]+"="+constant.Text(w))
			}
			return out
		}
		for kind := api.Live; kind <= api.Const; kind++ {
			s, _ := client.System(kind, p)
			a, _, _ := least.Solve(s)
			r, e := client.Report(kind, p, a)
			want := api.Report{Client: kind}
			for i, b := range p.L {
				row := api.Row{Block: b.Name}
				switch kind {
				case api.Live:
					row.In, row.Out = lb[i], le[i]
				case api.Reach:
					row.In, row.Out = named(rb[i], site), named(re[i], site)
				case api.Avail:
					row.In, row.Out = named(ab[i], expr), named(ae[i], expr)
				case api.Const:
					row.In, row.Out = known(cb[i]), known(ce[i])
				}
				want.Rows = append(want.Rows, row)
			}
			if e != api.OK || !client.Same(r, want) || !system.Solves(s, a) {
				t.Fatal(strconv.Itoa(seed), kind, r, want)
			}
		}
	}
}
