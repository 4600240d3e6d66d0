package render_test

import (
	"strings"
	"testing"

	"sough/api"
	"sough/client"
	"sough/least"
	"sough/render"
	"sough/sample"
)

func report(kind int, rows ...api.Row) api.Report { return api.Report{Client: kind, Rows: rows} }

func TestRight(t *testing.T) { // P43.1
	for i, c := range []struct {
		r    api.Report
		want bool
	}{
		{report(api.Live), true}, {report(api.Const), true}, {report(0), false}, {report(5), false}, {report(-1), false},
		{report(1, api.Row{Block: "a", In: []string{"x", " ", "~"}, Out: []string{"in x"}}), true},
		{report(1, api.Row{}), false}, {report(1, api.Row{Block: "if"}), false}, {report(1, api.Row{Block: "a b"}), false}, {report(1, api.Row{Block: "abcdefghijklm"}), false},
		{report(1, api.Row{Block: "a", In: []string{""}}), false}, {report(1, api.Row{Block: "a", Out: []string{""}}), false}, {report(1, api.Row{Block: "a", In: []string{"x\n"}}), false}, {report(1, api.Row{Block: "a", Out: []string{"\x1f"}}), false},
		{report(1, api.Row{Block: "a", Out: []string{"\x7f"}}), false}, {report(1, api.Row{Block: "a", Out: []string{"ä"}}), false}, {report(1, api.Row{Block: "a", Out: []string{"\xff"}}), false},
		{report(1, api.Row{Block: "a"}, api.Row{Block: "a"}), true}, {report(1, api.Row{Block: "a"}, api.Row{Block: ""}), false},
	} {
		s, e := render.Text(c.r)
		if render.Right(c.r) != c.want || (e == api.OK) != c.want || !c.want && (s != "" || e != api.ErrForm) {
			t.Error(i, e)
		}
		if c.want {
			if r, e := render.Parse(s); e != api.OK || !client.Same(r, c.r) {
				t.Error(i, r, e)
			}
		}
	}
}

func TestText(t *testing.T) { // P43.2
	r := report(api.Reach, api.Row{Block: "a", In: []string{"x@start", "y z"}, Out: []string{"x@a.0"}}, api.Row{Block: "b_1"})
	want := "report reach\nblock a\nin x@start\nin y z\nout x@a.0\nblock b_1\nend\n"
	if s, e := render.Text(r); s != want || e != api.OK {
		t.Errorf("%q %v", s, e)
	}
	if s, _ := render.Text(report(api.Const)); s != "report const\nend\n" {
		t.Errorf("%q", s)
	}
	for _, s := range []string{"", "end\n", "report\nend\n", "report \nend\n", "report none\nend\n", "report live", "report live\n", "report live\nend", "report live\nend\n\n", "report live\nend\nend\n", "report live\n\nend\n",
		" report live\nend\n", "report  live\nend\n", "report live \nend\n", "report live\nin x\nend\n", "report live\nout x\nend\n", "report live\nblock a\nout x\nin y\nend\n", "report live\nblock\nend\n", "report live\nblock if\nend\n",
		"report live\nblock a\nin \nend\n", "report live\nblock a\nin\nend\n", "report live\nblock a\nin ä\nend\n", "report live\nblock a\nend \n", "report live\nblock a\nend x\n", "report live\nblock a\r\nend\n", "report live\nreport live\nend\n",
		"report live\nblock a b\nend\n", "report live\nblock a\nins x\nend\n", "x\nreport live\nend\n"} {
		if r, e := render.Parse(s); e != api.ErrForm || !client.Same(r, api.Report{}) {
			t.Errorf("%q: %v %v", s, r, e)
		}
	}
	q, _ := render.Parse(want)
	_ = append(q.Rows[0].In, "more")
	if !client.Same(q, r) {
		t.Error(q)
	}
}

func TestUnlike(t *testing.T) { // P43.3
	met := map[string]api.Report{}
	see := func(r api.Report) {
		s, e := render.Text(r)
		if e != api.OK || !strings.HasSuffix(s, "end\n") {
			t.Fatal(r, e)
		}
		if o, is := met[s]; is && !client.Same(o, r) {
			t.Fatal(s, o, r)
		}
		met[s] = r
		if q, e := render.Parse(s); e != api.OK || !client.Same(q, r) {
			t.Fatal(s, q, e)
		}
	}
	words := []string{"in x", "out x", "x", " ", "block a", "end", "in", "out"}
	for seed := range 500 {
		d := sample.New(seed)
		r := api.Report{Client: 1 + d.Below(4)}
		for range d.Below(4) {
			row := api.Row{Block: []string{"a", "b", "ends"}[d.Below(3)]}
			for range d.Below(3) {
				row.In = append(row.In, words[d.Below(len(words))])
			}
			for range d.Below(3) {
				row.Out = append(row.Out, words[d.Below(len(words))])
			}
			r.Rows = append(r.Rows, row)
		}
		see(r)
		p := d.Program(1+d.Below(4), 5, 1+d.Below(3))
		s, _ := client.System(r.Client, p)
		a, _, _ := least.Solve(s)
		told, _ := client.Report(r.Client, p, a)
		see(told)
	}
}
