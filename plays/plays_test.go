package plays_test

import (
	"math"
	"slices"
	"testing"

	"sough/api"
	"sough/fair"
	"sough/plays"
	"sough/sample"
)

func TestRight(t *testing.T) { // P28.1
	if plays.Push != 1 || plays.Pop != 2 || plays.Steal != 3 {
		t.Error("kinds")
	}
	for i, c := range []struct {
		p    plays.Play
		want bool
	}{
		{plays.Play{Cap: 1}, true}, {plays.Play{Cap: 64}, true}, {plays.Play{}, false}, {plays.Play{Cap: 65}, false}, {plays.Play{Cap: -1}, false},
		{plays.Play{Cap: 1, Owner: make([]int, 256)}, true}, {plays.Play{Cap: 1, Owner: make([]int, 257)}, false},
		{plays.Play{Cap: 1, Owner: []int{1<<31 - 1, math.MinInt}}, true}, {plays.Play{Cap: 1, Owner: []int{1 << 31}}, false},
		{plays.Play{Cap: 1, Thieves: make([]int, 63)}, true}, {plays.Play{Cap: 1, Thieves: make([]int, 64)}, false},
		{plays.Play{Cap: 1, Thieves: []int{256, math.MinInt}}, true}, {plays.Play{Cap: 1, Thieves: []int{257}}, false},
	} {
		l, left, e := plays.Run(c.p)
		if plays.Right(c.p) != c.want || (e == api.OK) != c.want || len(l) != 0 || len(left) != 0 || !c.want && e != api.ErrArg {
			t.Error(i, e)
		}
	}
}

func picks(l ...int) []api.Pick {
	var out []api.Pick
	for _, w := range l {
		out = append(out, api.Pick{Worker: w})
	}
	return out
}

func TestRun(t *testing.T) { // P28.2
	op := func(who, kind, n, began, ended int, ok bool) api.Op {
		return api.Op{Who: who, Kind: kind, N: n, Began: began, Ended: ended, OK: ok}
	}
	for i, c := range []struct {
		p    plays.Play
		want []api.Op
		left []uint64
	}{
		{plays.Play{Cap: 2, Owner: []int{5, 0}, Script: fair.Round(1, 100)}, []api.Op{op(0, plays.Push, 5, 1, 4, true), op(0, plays.Pop, 5, 5, 10, true)}, nil},
		{plays.Play{Cap: 1, Owner: []int{5, 6, -1, -1}, Script: fair.Round(1, 100)},
			[]api.Op{op(0, plays.Push, 5, 1, 4, true), op(0, plays.Push, 6, 5, 6, false), op(0, plays.Pop, 5, 7, 12, true), op(0, plays.Pop, 0, 13, 16, false)}, nil},
		{plays.Play{Cap: 1, Owner: []int{5}, Script: picks(0, 0, 0)}, []api.Op{op(0, plays.Push, 5, 1, 0, false)}, nil},
		{plays.Play{Cap: 1, Owner: []int{5}, Thieves: []int{1}, Script: picks(0, 1, 0, 0, 0, 1, 0, 0, 1, 1)}, []api.Op{op(0, plays.Push, 5, 1, 5, true), op(1, plays.Steal, 5, 2, 10, true)}, nil},
		{plays.Play{Cap: 1, Owner: []int{5}, Thieves: []int{-1, 2}, Script: picks(1, 2, 2, 4, 1, 0, 0, 0, 0)},
			[]api.Op{op(2, plays.Steal, 0, 2, 3, false), op(0, plays.Push, 5, 6, 9, true)}, []uint64{5}},
		{plays.Play{Cap: 3, Owner: []int{5, 6}, Script: fair.Round(1, 8)}, []api.Op{op(0, plays.Push, 5, 1, 4, true), op(0, plays.Push, 6, 5, 8, true)}, []uint64{5, 6}},
	} {
		l, left, e := plays.Run(c.p)
		if e != api.OK || !slices.Equal(l, c.want) || !slices.Equal(left, c.left) {
			t.Error(i, l, left, e)
		}
	}
}

func TestWhole(t *testing.T) { // P28.3
	push := func(n int) api.Op { return api.Op{Kind: plays.Push, N: n, Began: 1, Ended: 2, OK: true} }
	pop := func(n int) api.Op { return api.Op{Kind: plays.Pop, N: n, Began: 1, Ended: 2, OK: true} }
	steal := func(n int) api.Op { return api.Op{Kind: plays.Steal, N: n, Began: 1, Ended: 2, OK: true} }
	open := func(kind, n int) api.Op { return api.Op{Kind: kind, N: n, Began: 1} }
	failed := func(kind, n int) api.Op { return api.Op{Kind: kind, N: n, Began: 1, Ended: 2} }
	for i, c := range []struct {
		l    []api.Op
		left []uint64
		want bool
	}{
		{nil, nil, true}, {nil, []uint64{1}, false}, {[]api.Op{push(1)}, nil, false}, {[]api.Op{push(1)}, []uint64{1}, true}, {[]api.Op{push(1), pop(1)}, nil, true},
		{[]api.Op{push(1), push(1), steal(1)}, []uint64{1}, true}, {[]api.Op{push(1), steal(1), pop(1)}, nil, false}, {[]api.Op{push(1), steal(1)}, []uint64{1}, false},
		{[]api.Op{open(plays.Push, 1)}, nil, true}, {[]api.Op{open(plays.Push, 1)}, []uint64{1}, true}, {[]api.Op{open(plays.Push, 1)}, []uint64{1, 1}, false}, {[]api.Op{open(plays.Push, 1)}, []uint64{2}, false},
		{[]api.Op{push(1), open(plays.Pop, 0)}, nil, true}, {[]api.Op{push(1), push(1), open(plays.Pop, 0)}, nil, false}, {[]api.Op{push(1), push(2), open(plays.Pop, 0)}, nil, false},
		{[]api.Op{push(1), open(plays.Steal, 0)}, nil, false}, {[]api.Op{open(plays.Pop, 0)}, []uint64{3}, false},
		{[]api.Op{push(1), open(plays.Push, 2), open(plays.Pop, 0), steal(2)}, nil, true},
		{[]api.Op{failed(plays.Push, 1)}, nil, true}, {[]api.Op{failed(plays.Push, 1)}, []uint64{1}, false}, {[]api.Op{push(1), failed(plays.Pop, 1)}, nil, false}, {[]api.Op{push(1), failed(plays.Steal, 1)}, []uint64{1}, true},
		{[]api.Op{push(-1)}, []uint64{math.MaxUint64}, true},
	} {
		if plays.Whole(c.l, c.left) != c.want {
			t.Error(i)
		}
	}
}

func TestAnyScript(t *testing.T) { // P28.4, P28.2
	for seed := range 1500 {
		d := sample.New(seed)
		p := plays.Play{Cap: 1 + d.Below(3), Thieves: []int{d.Below(5), d.Below(5)}}
		for i := range d.Below(10) {
			p.Owner = append(p.Owner, (i+1)*d.Below(2))
		}
		p.Script = d.Script(3, d.Below(150))
		whole := d.Below(2) == 0
		if whole {
			p.Script = append(p.Script, fair.Round(3, 400)...)
		}
		l, left, e := plays.Run(p)
		if e != api.OK || !plays.Whole(l, left) {
			t.Fatal(seed, l, left)
		}
		for i, o := range l {
			if i > 0 && o.Began <= l[i-1].Began || o.Ended != 0 && o.Ended <= o.Began || o.OK && o.Ended == 0 {
				t.Fatal(seed, l)
			}
		}
		if !whole {
			continue
		}
		if len(l) != len(p.Owner)+p.Thieves[0]+p.Thieves[1] {
			t.Fatal(seed, l)
		}
		var in, out []int
		for _, o := range l {
			if o.Ended == 0 {
				t.Fatal(seed, l)
			}
			if o.OK && o.Kind == plays.Push {
				in = append(in, o.N)
			} else if o.OK {
				out = append(out, o.N)
			}
		}
		for _, n := range left {
			out = append(out, int(n))
		}
		slices.Sort(in)
		slices.Sort(out)
		if !slices.Equal(in, out) {
			t.Fatal(seed, in, out)
		}
	}
}
