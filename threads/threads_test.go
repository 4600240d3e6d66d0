package threads_test

import (
	"math"
	"slices"
	"testing"

	"sough/api"
	"sough/least"
	"sough/sample"
	"sough/threads"
)

func TestDraws(t *testing.T) { // P37.2
	if l := threads.Draws(0, 1); !slices.Equal(l, []int{0}) {
		t.Error(l)
	}
	for _, seed := range []int{0, 1, 63, -1, math.MinInt, math.MaxInt, 1 << 31, 1<<31 + 1, -12345} {
		x := seed % (1 << 31)
		if x < 0 {
			x += 1 << 31
		}
		l := threads.Draws(seed, 100)
		for i, got := range l {
			x = (x*1103515245 + 12345) % (1 << 31)
			if got != x/65536 {
				t.Fatal(seed, i, got)
			}
		}
		if !slices.Equal(threads.Draws(seed, 7), l[:7]) {
			t.Error(seed)
		}
	}
	for n, want := range map[int]int{0: 0, -1: 0, math.MinInt: 0, 4096: 4096, 4097: 4096, math.MaxInt: 4096} {
		if got := threads.Draws(5, n); len(got) != want {
			t.Error(n, len(got))
		}
	}
}

func TestRun(t *testing.T) { // P37.1, P37.3
	for seed := range 300 {
		d := sample.New(seed)
		s := d.Any()
		workers := 1 + d.Below(8)
		if seed%100 == 0 {
			s, workers = d.System(1+d.Below(3), 70, 60, 150), 64
		}
		want, _, _ := least.Solve(s)
		if a, e := threads.Run(s, workers); e != api.OK || !least.Same(a, want) {
			t.Fatal(seed, a, e, want)
		}
	}
	one := api.System{What: api.Flat, Width: 1, Nodes: 1, Init: []uint64{1}, T: []api.Trans{{}}}
	for i, c := range []struct {
		s       api.System
		workers int
		want    api.Errno
	}{{one, 1, api.OK}, {one, 64, api.OK}, {one, 0, api.ErrArg}, {one, 65, api.ErrArg}, {one, math.MinInt, api.ErrArg}, {api.System{}, 0, api.ErrKind}, {api.System{What: api.May, Nodes: -1}, 1, api.ErrArg}} {
		if a, e := threads.Run(c.s, c.workers); e != c.want || e != api.OK && a != nil {
			t.Error(i, a, e)
		}
	}
}
