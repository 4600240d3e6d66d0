package rules_test

import (
	"slices"
	"strings"
	"testing"

	"sough/analyze"
	"sough/api"
	"sough/client"
	"sough/constant"
	"sough/exec"
	"sough/fair"
	"sough/gauss"
	"sough/grammar"
	"sough/live"
	"sough/plays"
	"sough/printer"
	"sough/prop"
	"sough/proper"
	"sough/render"
	"sough/sample"
	"sough/tidy"
)

const countdown = "block a { in n; goto b; } block b { m = n * 2; n = n - 1; if n then b else c; } block c { out m; ret; }"

// TestExamples: the examples of the whole.
func TestExamples(t *testing.T) {
	p, _ := grammar.Parse(countdown)
	begins, _, _ := prop.Sets(p)
	if !live.Is(p, 1, "m") || !live.Is(p, 1, "n") || !slices.Equal(begins[1], []uint64{constant.Any, constant.Any}) {
		t.Error("1", begins)
	}
	for kind := api.Live; kind <= api.Const; kind++ {
		want := analyze.Plain(countdown, kind)
		alone := analyze.Analyze(countdown, analyze.Ask{Client: kind, Workers: 1, Script: fair.Round(1, 2000)})
		four := analyze.Ask{Client: kind, Workers: 4}
		most, _ := analyze.Most(countdown, four, 7)
		four.Script = fair.Weave(4, most+1, []int{3, 1, 4, 1, 5, 9, 2, 6})
		if want.Kind != analyze.Told || alone != want || analyze.Analyze(countdown, four) != want {
			t.Error("2", kind, alone)
		}
	}
	if gauss.Mul(api.Num{Im: 1}, api.Num{Im: 1}) != (api.Num{Re: -1}) {
		t.Error("3")
	}
	q, _ := grammar.Parse("block a { x = 1; y = x; out y; ret; }")
	small, _, _ := tidy.Program(q, 1)
	if s, _ := printer.Program(small); s != "block a {\n\tout 1;\n\tret;\n}\n" {
		t.Error("5", s)
	}
	if analyze.Analyze(countdown, analyze.Ask{Client: api.Live, Workers: 1}) != (analyze.Answer{Kind: analyze.Spent}) {
		t.Error("6")
	}
}

// TestOneHasIt: example 4, of all orders of the Steps of a Pop and a Steal.
func TestOneHasIt(t *testing.T) {
	won := map[int]int{}
	for order := range 1 << 10 {
		script := fair.Round(1, 4) // the push
		for i := range 10 {
			script = append(script, api.Pick{Worker: order >> i & 1})
		}
		script = append(script, fair.Round(2, 20)...)
		l, left, e := plays.Run(plays.Play{Cap: 1, Owner: []int{7, 0}, Thieves: []int{1}, Script: script})
		has := 0
		for _, o := range l[1:] {
			if o.OK && o.N == 7 {
				has++
				won[o.Who]++
			}
		}
		if e != api.OK || has != 1 || len(left) != 0 || !plays.Whole(l, left) {
			t.Fatal(order, l, left)
		}
	}
	if won[0] == 0 || won[1] == 0 {
		t.Error(won)
	}
}

// TestTexts: each text is a program, or has a fault at a place of it; reports
// are read from their texts.
func TestTexts(t *testing.T) { // G4
	for seed := range 3000 {
		d := sample.New(seed)
		s := countdown
		for range 1 + d.Below(3) {
			at := d.Below(len(s))
			s = s[:at] + []string{"", " ", ";", "{", "b ", "-", "40000", "$", "#", "if"}[d.Below(10)] + s[min(at+d.Below(4), len(s)):]
		}
		p, f := grammar.Parse(s)
		if f.E != api.OK {
			if f.At < 0 || f.At > len(s) || len(p.L) > 0 {
				t.Fatal(s, f)
			}
			continue
		}
		text, e := printer.Program(p)
		q, f := grammar.Parse(text)
		if e != api.OK || f.E != api.OK || !proper.Same(p, q) {
			t.Fatal(s, text)
		}
		told := analyze.Plain(s, 1+seed%4)
		r, e := render.Parse(told.Text)
		if again, _ := render.Text(r); e != api.OK || again != told.Text || r.Client != 1+seed%4 || !strings.HasPrefix(told.Text, "report "+client.Name(r.Client)) {
			t.Fatal(told)
		}
	}
}

// TestSmaller: G5 and G6 of the countdown, which comes to its end.
func TestSmaller(t *testing.T) {
	p, _ := grammar.Parse(countdown)
	for n := range 9 {
		in := []api.Num{{Re: n + 1}}
		small, _, _ := tidy.Program(p, 9)
		a, _ := exec.All(p, in, 100)
		b, _ := exec.All(small, in, 100)
		if !a.Ended || !b.Ended || !slices.Equal(a.Out, b.Out) || !slices.Equal(a.Out, []api.Num{{Re: 2}}) || !tidy.Better(small, p) {
			t.Error(n, a.Out, b.Out)
		}
	}
}
