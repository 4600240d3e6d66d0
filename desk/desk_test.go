package desk_test

import (
	"slices"
	"strconv"
	"strings"
	"testing"

	"sough/analyze"
	"sough/api"
	"sough/desk"
	"sough/exec"
	"sough/fair"
	"sough/fold"
	"sough/gauss"
	"sough/grammar"
	"sough/printer"
	"sough/proper"
	"sough/prune"
	"sough/sample"
	"sough/sweep"
	"sough/tidy"
)

func TestNumbers(t *testing.T) { // P50.1
	for _, n := range []api.Num{{}, {Re: -5}, {Re: 32767, Im: -32768}, {Im: 1}, {Re: -32768}} {
		if got, is := desk.Num(gauss.Text(n)); got != n || !is {
			t.Error(n, got, is)
		}
	}
	for _, s := range []string{"", "-", "-0", "+5", "05", "32768", "-32769", "65536", "(1,0)", "(1,2", "1,2", "1,2)", "(1,2))", "((1,2)", "(1)", "(1,)", "(,1)", "()", "(1,-0)", "(01,2)", "(1, 2)", "(1,2,3)", "(1,40000)", " 1", "1 ", "1)", "(5", "x", "99999999999999999999"} {
		if got, is := desk.Num(s); got != (api.Num{}) || is {
			t.Error(s, got, is)
		}
	}
	for s, want := range map[string]int{"0": 0, "7": 7, "999999": 999999, "100000": 100000} {
		if got, is := desk.Int(s); got != want || !is {
			t.Error(s, got, is)
		}
	}
	for _, s := range []string{"", "00", "01", "1000000", "-1", "-0", "+1", " 1", "1 ", "1x", "x", "0x1", "1_0"} {
		if got, is := desk.Int(s); got != 0 || is {
			t.Error(s, got, is)
		}
	}
}

const square = "block a { in x; y = x * x; out y; ret; }"

const text = "block a { x = 2; y = x + 1; z = 9; out y; if q then b else c; } block b { goto a; } block c { goto d; } block d { in w; out w; ret; } block e { ret; }"

func TestTell(t *testing.T) { // P50.2
	d := desk.New(square)
	want, _ := grammar.Parse(square)
	p, f := d.Tell()
	if f != (api.Fault{}) || !proper.Same(p, want) {
		t.Error(p, f)
	}
	p.L[0].Name, p.L[0].L[0].Var = "other", "other"
	if q, _ := d.Tell(); !proper.Same(q, want) {
		t.Error("shared")
	}
	bad := desk.New("block a { goto b; }")
	if p, f := bad.Tell(); f != (api.Fault{E: api.ErrName, At: 15}) || len(p.L) != 0 {
		t.Error(p, f)
	}
	for _, line := range []string{"print", "", "  ", "tidy", "none"} {
		if got := bad.Do(line); got != "error 4 15\n" {
			t.Error(line, got)
		}
	}
	var none *desk.Desk
	for i, d := range []*desk.Desk{none, new(desk.Desk)} {
		if p, f := d.Tell(); f != (api.Fault{E: api.ErrNil}) || len(p.L) != 0 || d.Do("print") != "error 14 0\n" || d.Do("") != "error 14 0\n" {
			t.Error(i, p, f)
		}
	}
	if l := desk.Play(square, []string{"run 5 (0,1)", "nothing", "weight"}); !slices.Equal(l, []string{"out -1 ended\n", "what\n", "7\n"}) {
		t.Error(l)
	}
	if l := desk.Play("", []string{"a", "b"}); !slices.Equal(l, []string{"error 3 0\n", "error 3 0\n"}) || len(desk.Play(square, nil)) != 0 {
		t.Error(l)
	}
}

func TestLines(t *testing.T) { // P50.3
	p, _ := grammar.Parse(text)
	printed, _ := printer.Program(p)
	script := fair.Text(fair.Round(2, 3000))
	for line, want := range map[string]string{
		"print":                   printed,
		"weight":                  strconv.Itoa(tidy.Weight(p)) + "\n",
		"report live":             analyze.PlainOf(p, api.Live).Text,
		"report const":            analyze.PlainOf(p, api.Const).Text,
		"solve reach 2 " + script: analyze.PlainOf(p, api.Reach).Text,
		"solve avail 2":           "spent\n",
		"solve avail 2 0:0 -1:5":  "spent\n",
		"solve avail 0":           "wrong\n",
		"solve avail 65 0:0":      "wrong\n",
		"run 9 0 0 7":             "out 3 0 ended\n",
		"run 1":                   "out 3 stopped\n",
		"run 0":                   "out stopped\n",
		"run 3 (5,5)":             "out 3 (5,5) ended\n",
		"run 2 5":                 "out 3 stopped\n",
		"run 999999":              "out 3 0 ended\n",
	} {
		if got := desk.New(text).Do(line); got != want {
			t.Errorf("%.40q: %q, want %q", line, got, want)
		}
	}
	d := desk.New(text)
	for _, line := range []string{"", " ", "print ", " print", "Print", "print print", "report", "report none", "report live live", "report  live", "solve", "solve live", "solve none 2", "solve live x", "solve live 01", "solve live 1000000",
		"solve live 2 0", "solve live 2 0:0,1:1", "solve live 2 00:1", "solve 2", "run", "run x", "run 01", "run 5 x", "run 5 05", "run 5 (1,0)", "run -1", "run 5  5", "fold fold", "weight 1", "tidy 5", "print\n", "print\t", "nothing"} {
		if got := d.Do(line); got != "what\n" {
			t.Errorf("%q: %q", line, got)
		}
	}
	if q, _ := d.Tell(); !proper.Same(p, q) {
		t.Error("the program stays")
	}
	for line, f := range map[string]func(api.Program) api.Program{
		"fold":  func(p api.Program) api.Program { q, _ := fold.Program(p); return q },
		"prune": func(p api.Program) api.Program { q, _ := prune.Program(p); return q },
		"sweep": func(p api.Program) api.Program { q, _, _ := sweep.Whole(p); return q },
		"merge": func(p api.Program) api.Program { q, _ := prune.Merge(p); return q },
		"tidy":  func(p api.Program) api.Program { q, _, _ := tidy.Program(p, 4096); return q },
	} {
		d := desk.New(text)
		answer := d.Do(line)
		q, _ := d.Tell()
		if want := f(p); answer != "ok\n" || !proper.Same(q, want) || proper.Same(q, p) {
			t.Error(line, answer)
		}
	}
	l := desk.Play(text, []string{"fold", "sweep", "merge", "print"})
	if !strings.HasPrefix(l[3], "block a {\n\tout 3;\n") {
		t.Error(l)
	}
}

func TestRuns(t *testing.T) { // P50.3
	for seed := range 60 {
		d := sample.New(seed)
		p := d.Program(1+d.Below(4), 5, 1+d.Below(3))
		s, _ := printer.Program(p)
		in := d.Nums(4)
		words := ""
		for _, n := range in {
			words += " " + gauss.Text(n)
		}
		for _, most := range []int{0, 1, 15, 16, 17, 31, 32, 33, 300} {
			r, _ := exec.All(p, in, most)
			want := "out"
			for _, n := range r.Out {
				want += " " + gauss.Text(n)
			}
			if r.Ended {
				want += " ended\n"
			} else {
				want += " stopped\n"
			}
			if got := desk.New(s).Do("run " + strconv.Itoa(most) + words); got != want {
				t.Fatal(seed, most, got, want)
			}
		}
	}
	long := desk.New("block a {" + strings.Repeat("out 1;", api.MaxStmts) + "goto a; }").Do("run 999999")
	if len(long) != len("out stopped\n")+2*api.MaxStmts*api.MaxTrips {
		t.Error(len(long))
	}
}

// number reads an answer of one line of digits.
func number(answer string) (int, bool) {
	digits, is := strings.CutSuffix(answer, "\n")
	n, read := desk.Int(digits)
	return n, is && read
}

func TestFeeds(t *testing.T) { // P50.3
	script := fair.Text(fair.Round(2, 3000))
	for _, s := range []string{text, square, "block a { ret; }", "block", ""} {
		for _, line := range []string{"print", "report live", "report reach", "report avail", "report const", "solve const 2 " + script, "report"} {
			got := desk.New(s).Do(line)
			if !strings.HasSuffix(got, "\n") || strings.HasSuffix(got, "\n\n") {
				t.Errorf("%q, %.20q: %q", s, line, got)
			}
		}
		for _, line := range []string{"solve live 2", "solve live 0", "run 5 1 2", "run 0", "fold", "prune", "sweep", "merge", "tidy", "weight", "none", "", " "} {
			got := desk.New(s).Do(line)
			if strings.Index(got, "\n") != len(got)-1 || strings.HasPrefix(got, "\n") {
				t.Errorf("%q, %q: %q", s, line, got)
			}
		}
	}
}

func TestSame(t *testing.T) { // P50.4
	changes := []string{"fold", "prune", "sweep", "merge", "tidy"}
	for seed := range 300 {
		dice := sample.New(seed)
		s, _ := printer.Program(dice.Program(1+dice.Below(6), 6, 1+dice.Below(4)))
		d := desk.New(s)
		run := "run 40"
		for _, n := range dice.Nums(dice.Below(5)) {
			run += " " + gauss.Text(n)
		}
		want := d.Do(run)
		weight, _ := number(d.Do("weight"))
		for range 4 {
			if got := d.Do(changes[dice.Below(5)]); got != "ok\n" {
				t.Fatal(seed, got)
			}
			if got := d.Do(run); strings.HasSuffix(want, "ended\n") && got != want {
				t.Fatal(seed, got, want)
			}
			lighter, is := number(d.Do("weight"))
			if !is || lighter > weight {
				t.Fatal(seed, lighter, weight)
			}
			weight = lighter
		}
	}
}
