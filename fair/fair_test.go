package fair_test

import (
	"math"
	"slices"
	"testing"

	"sough/api"
	"sough/fair"
	"sough/sample"
	"sough/sched"
)

func picks(l ...int) []api.Pick {
	var out []api.Pick
	for _, w := range l {
		out = append(out, api.Pick{Worker: w})
	}
	return out
}

// is is the promise's own words.
func is(script []api.Pick, n, k int) bool {
	n = min(max(n, 1), 64)
	for i := 0; i+k <= len(script); i++ {
		met := map[int]int{}
		for _, p := range script[i : i+k] {
			met[sched.Who(p, n)]++
		}
		if len(met) < n {
			return false
		}
	}
	return true
}

func TestWindow(t *testing.T) { // P26.1
	for i, c := range []struct {
		script []api.Pick
		n      int
		want   int
	}{{nil, 1, 1}, {nil, 5, 1}, {picks(0), 1, 1}, {picks(0), 2, 2}, {picks(0, 1, 0, 1), 2, 2}, {picks(0, 0, 1, 0), 2, 3}, {picks(1, 0, 0, 0), 2, 4}, {picks(0, 0, 0), 2, 4},
		{picks(0, 3, -2), 2, 2}, {picks(5, 5, 5), 0, 1}, {picks(5, 5, 5), -9, 1}, {picks(5, 5, 5), 100, 4}} {
		if got := fair.Window(c.script, c.n); got != c.want {
			t.Error(i, got)
		}
	}
	for seed := range 200 {
		d := sample.New(seed)
		n := d.Below(5)
		script := d.Script(n+1, d.Below(12))
		for k := -1; k < 15; k++ {
			want := k >= 1 && is(script, n, k)
			if fair.Is(script, n, k) != want || k >= 1 && want != (k >= fair.Window(script, n)) {
				t.Fatal(script, n, k, want)
			}
		}
		if fair.Is(script, n, math.MinInt) || !fair.Is(script, n, math.MaxInt) {
			t.Fatal("far")
		}
	}
	var round []api.Pick
	for w := range 64 {
		round = append(round, api.Pick{Worker: w})
	}
	if !fair.Is(round, 64, 64) || !fair.Is(round, 65, 64) || fair.Is(round[:63], 64, 63) {
		t.Error("64")
	}
}

func TestMake(t *testing.T) { // P26.2
	if l := fair.Round(3, 5); !slices.Equal(l, picks(0, 1, 2, 0, 1)) {
		t.Error(l)
	}
	if l := fair.Round(0, 3); !slices.Equal(l, picks(0, 0, 0)) {
		t.Error(l)
	}
	if len(fair.Round(2, -1)) != 0 || len(fair.Weave(2, -1, nil)) != 0 || len(fair.Round(1, math.MaxInt)) != 1<<20 || len(fair.Weave(3, 1<<20+1, []int{1})) != 1<<20 {
		t.Error("long")
	}
	if l := fair.Round(70, 65); l[63].Worker != 63 || l[64].Worker != 0 {
		t.Error(l)
	}
	pick := func(w, d int) api.Pick { return api.Pick{Worker: w, Draw: d} }
	for i, c := range []struct {
		n, long int
		raw     []int
		want    []api.Pick
	}{
		{3, 4, nil, []api.Pick{pick(0, 0), pick(1, 0), pick(2, 0), pick(0, 0)}},
		{3, 7, []int{1, -1}, []api.Pick{pick(1, 1), pick(2, -1), pick(0, 1), pick(2, -1), pick(1, 1), pick(0, -1), pick(1, 1)}},
		{2, 3, []int{math.MinInt, 5, math.MaxInt}, []api.Pick{pick(0, math.MinInt), pick(1, 5), pick(1, math.MaxInt)}},
		{-4, 2, []int{7}, []api.Pick{pick(0, 7), pick(0, 7)}},
	} {
		if l := fair.Weave(c.n, c.long, c.raw); !slices.Equal(l, c.want) {
			t.Error(i, l)
		}
	}
}

func TestText(t *testing.T) { // P26.3
	for s, want := range map[string][]api.Pick{"": nil, "1:-2 0:0": {{Worker: 1, Draw: -2}, {}}, "-9223372036854775808:9223372036854775807": {{Worker: math.MinInt, Draw: math.MaxInt}}} {
		if got := fair.Text(want); got != s {
			t.Errorf("%q", got)
		}
		if l, is := fair.Parse(s); !is || !slices.Equal(l, want) {
			t.Error(s, l, is)
		}
	}
	for _, s := range []string{" ", "1", "1:", ":1", "1:2 ", " 1:2", "1:2  3:4", "1:2:3", "01:2", "1:02", "-0:1", "1:-0", "--1:2", "+1:2", "1:2,3:4", "1 :2", "-:1", "1:2\n", "1:2 3",
		"9223372036854775808:0", "0:-9223372036854775809", "1:2x", "x", "1:2 :"} {
		if l, is := fair.Parse(s); is || l != nil {
			t.Errorf("%q: %v", s, l)
		}
	}
	for seed := range 50 {
		d := sample.New(seed)
		script := d.Script(9, d.Below(9))
		if l, is := fair.Parse(fair.Text(script)); !is || !slices.Equal(l, script) {
			t.Fatal(script, l)
		}
	}
}

func TestFair(t *testing.T) { // P26.4
	for seed := range 200 {
		d := sample.New(seed)
		n, long := 1+d.Below(7), d.Below(40)
		var raw []int
		for range d.Below(9) {
			raw = append(raw, int(d.Word()))
		}
		if !fair.Is(fair.Round(n, long), n, n) || !fair.Is(fair.Weave(n, long, raw), n, 2*n-1) {
			t.Fatal(n, long, raw)
		}
	}
}
