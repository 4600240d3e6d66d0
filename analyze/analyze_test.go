package analyze_test

import (
	"strings"
	"testing"

	"sough/analyze"
	"sough/api"
	"sough/bound"
	"sough/client"
	"sough/fair"
	"sough/grammar"
	"sough/least"
	"sough/printer"
	"sough/proper"
	"sough/render"
	"sough/sample"
)

const text = "block a { in n; goto b; } block b { m = n * 2; n = n - 1; if n then b else c; } block c { out m; ret; }"

func wrong(e api.Errno, at int) analyze.Answer {
	return analyze.Answer{Kind: analyze.Wrong, F: api.Fault{E: e, At: at}}
}

func TestWrong(t *testing.T) { // P44.1, P44.2, G1
	for i, c := range []struct {
		s          string
		a          analyze.Ask
		all, plain analyze.Answer
	}{
		{"", analyze.Ask{Client: api.Live, Workers: 1}, wrong(api.ErrSyntax, 0), wrong(api.ErrSyntax, 0)},
		{"", analyze.Ask{Workers: 0}, wrong(api.ErrKind, 0), wrong(api.ErrKind, 0)},
		{"", analyze.Ask{Client: 5, Workers: 1}, wrong(api.ErrKind, 0), wrong(api.ErrKind, 0)},
		{"", analyze.Ask{Client: api.Const, Workers: 0}, wrong(api.ErrArg, 0), wrong(api.ErrSyntax, 0)},
		{"", analyze.Ask{Client: api.Const, Workers: 65}, wrong(api.ErrArg, 0), wrong(api.ErrSyntax, 0)},
		{"block a { goto b; }", analyze.Ask{Client: api.Reach, Workers: 64}, wrong(api.ErrName, 15), wrong(api.ErrName, 15)},
		{"block a { x = 40000; ret; }", analyze.Ask{Client: api.Avail, Workers: 2}, wrong(api.ErrLimit, 14), wrong(api.ErrLimit, 14)},
	} {
		if got := analyze.Analyze(c.s, c.a); got != c.all {
			t.Error(i, got)
		}
		if got := analyze.Plain(c.s, c.a.Client); got != c.plain {
			t.Error(i, got)
		}
		if n, is := analyze.Most(c.s, c.a, 1); n != 0 || is {
			t.Error(i, n)
		}
	}
	odd := api.Program{L: []api.Block{{Name: "a", T: api.Term{Kind: api.EndRet}}, {Name: "a", T: api.Term{Kind: api.EndRet}}}}
	for _, p := range []api.Program{{}, odd} {
		want := wrong(proper.Check(p), 0)
		if got := analyze.Of(p, analyze.Ask{Client: api.Live, Workers: 3}); got != want {
			t.Error(got)
		}
		if got := analyze.PlainOf(p, api.Const); got != want {
			t.Error(got)
		}
		if analyze.Of(p, analyze.Ask{}) != wrong(api.ErrKind, 0) || analyze.PlainOf(p, 5) != wrong(api.ErrKind, 0) || analyze.Of(p, analyze.Ask{Client: 1}) != wrong(api.ErrArg, 0) {
			t.Error("order")
		}
	}
}

func TestTold(t *testing.T) { // P44.1, P44.2
	if analyze.Wrong != 1 || analyze.Spent != 2 || analyze.Told != 3 {
		t.Error("kinds")
	}
	want := "report live\nblock a\nout n\nblock b\nin n\nout m\nout n\nblock c\nin m\nend\n"
	if got := analyze.Plain(text, api.Live); got != (analyze.Answer{Kind: analyze.Told, Text: want}) {
		t.Errorf("%+v", got)
	}
	for _, workers := range []int{1, 4, 64} {
		a := analyze.Ask{Client: api.Live, Workers: workers, Script: fair.Round(workers, 20000)}
		if got := analyze.Analyze(text, a); got != (analyze.Answer{Kind: analyze.Told, Text: want}) {
			t.Errorf("%d: %+v", workers, got)
		}
		a.Script = a.Script[:9]
		if got := analyze.Analyze(text, a); got != (analyze.Answer{Kind: analyze.Spent}) {
			t.Errorf("%d: %+v", workers, got)
		}
		a.Script = nil
		if got := analyze.Analyze(text, a); got != (analyze.Answer{Kind: analyze.Spent}) {
			t.Errorf("%d: %+v", workers, got)
		}
	}
	if got := analyze.Plain(text, api.Const).Text; !strings.Contains(got, "in m=?\nin n=?\n") {
		t.Error(got)
	}
}

func TestMost(t *testing.T) { // P44.3
	p, _ := grammar.Parse(text)
	for kind := api.Live; kind <= api.Const; kind++ {
		s, _ := client.System(kind, p)
		want, _ := bound.Picks(s, 3, 7)
		if n, is := analyze.Most(text, analyze.Ask{Client: kind, Workers: 3}, 7); n != want || !is {
			t.Error(kind, n, is)
		}
	}
	for i, c := range []struct{ client, workers, k int }{{0, 1, 1}, {5, 1, 1}, {1, 0, 1}, {1, 65, 1}, {1, 1, 0}, {1, 1, 4097}} {
		if n, is := analyze.Most(text, analyze.Ask{Client: c.client, Workers: c.workers}, c.k); n != 0 || is {
			t.Error(i, n, is)
		}
	}
}

func TestSame(t *testing.T) { // P44.4, G1, G2
	for seed := range 120 {
		d := sample.New(seed)
		p := d.Program(1+d.Below(4), 4, 1+d.Below(3))
		s, _ := printer.Program(p)
		kind, workers := 1+d.Below(4), 1+d.Below(4)
		sys, _ := client.System(kind, p)
		a, _, _ := least.Solve(sys)
		r, _ := client.Report(kind, p, a)
		want, _ := render.Text(r)
		plain := analyze.Plain(s, kind)
		if plain != (analyze.Answer{Kind: analyze.Told, Text: want}) || plain != analyze.PlainOf(p, kind) {
			t.Fatal(seed, plain)
		}
		ask := analyze.Ask{Client: kind, Workers: workers}
		k := 2*workers - 1
		most, _ := analyze.Most(s, ask, k)
		ask.Script = fair.Weave(workers, most+1, []int{d.Below(99), d.Below(99), -7, 3, d.Below(99)})
		if got := analyze.Analyze(s, ask); got != plain || analyze.Of(p, ask) != plain {
			t.Fatal(seed, got)
		}
		for range 5 {
			ask.Script = d.Script(workers, d.Below(900))
			got := analyze.Analyze(s, ask)
			if got != plain && got != (analyze.Answer{Kind: analyze.Spent}) || analyze.Of(p, ask) != got {
				t.Fatal(seed, got)
			}
		}
	}
}
