package linear_test

import (
	"slices"
	"testing"

	"sough/api"
	"sough/linear"
	"sough/plays"
	"sough/sample"
)

func op(kind, n, began, ended int, ok bool) api.Op {
	return api.Op{Kind: kind, N: n, Began: began, Ended: ended, OK: ok}
}

func push(n int) api.Op  { return op(plays.Push, n, 1, 9, true) }
func pop(n int) api.Op   { return op(plays.Pop, n, 1, 9, true) }
func steal(n int) api.Op { return op(plays.Steal, n, 1, 9, true) }

func TestAhead(t *testing.T) { // P29.1
	for i, c := range []struct {
		a, b api.Op
		want bool
	}{{op(1, 0, 1, 3, true), op(1, 0, 4, 9, true), true}, {op(1, 0, 1, 4, true), op(1, 0, 4, 9, true), false}, {op(1, 0, 1, 5, true), op(1, 0, 4, 9, true), false},
		{op(1, 0, 1, 0, false), op(1, 0, 4, 9, true), false}, {op(1, 0, 1, 3, true), op(1, 0, 4, 0, false), true}} {
		if linear.Ahead(c.a, c.b) != c.want {
			t.Error(i)
		}
	}
}

func TestFits(t *testing.T) { // P29.1, P29.2
	failed := func(kind int) api.Op { return op(kind, 0, 1, 9, false) }
	open := func(kind, n int) api.Op { return op(kind, n, 1, 0, false) }
	for i, c := range []struct {
		l     []api.Op
		room  int
		order []int
		want  bool
	}{
		{nil, 1, nil, true},
		{[]api.Op{push(5), steal(5)}, 1, []int{0, 1}, true}, {[]api.Op{push(5), steal(5)}, 1, []int{1, 0}, false},
		{[]api.Op{push(5)}, 1, nil, false}, {[]api.Op{push(5)}, 1, []int{0, 0}, false}, {[]api.Op{push(5)}, 1, []int{1}, false}, {[]api.Op{push(5)}, 1, []int{-1}, false},
		{[]api.Op{push(5), push(6)}, 1, []int{0, 1}, false}, {[]api.Op{push(5), push(6)}, 2, []int{0, 1}, true}, {[]api.Op{push(5), push(6)}, -3, []int{0, 1}, false}, {[]api.Op{push(5)}, -3, []int{0}, true},
		{[]api.Op{push(5), push(6), pop(6), pop(5)}, 2, []int{0, 1, 2, 3}, true}, {[]api.Op{push(5), push(6), pop(5), pop(6)}, 2, []int{0, 1, 2, 3}, false},
		{[]api.Op{push(5), push(6), steal(5), steal(6)}, 2, []int{0, 1, 2, 3}, true}, {[]api.Op{push(5), push(6), steal(6), steal(5)}, 2, []int{0, 1, 2, 3}, false},
		{[]api.Op{pop(0)}, 2, []int{0}, false}, {[]api.Op{steal(0)}, 2, []int{0}, false},
		{[]api.Op{push(5), failed(plays.Push)}, 1, []int{0, 1}, true}, {[]api.Op{push(5), failed(plays.Push)}, 2, []int{0, 1}, false}, {[]api.Op{failed(plays.Push)}, 0, []int{0}, false},
		{[]api.Op{push(5), failed(plays.Pop)}, 1, []int{0, 1}, false}, {[]api.Op{push(5), failed(plays.Pop)}, 1, []int{1, 0}, true},
		{[]api.Op{push(5), failed(plays.Steal), pop(5)}, 1, []int{0, 1, 2}, true},
		{[]api.Op{open(plays.Push, 5), steal(5)}, 1, []int{0, 1}, true}, {[]api.Op{open(plays.Push, 5)}, 1, nil, true}, {[]api.Op{push(4), open(plays.Push, 5)}, 1, []int{0, 1}, false},
		{[]api.Op{open(plays.Pop, 0)}, 1, []int{0}, true}, {[]api.Op{push(5), open(plays.Pop, 0), failed(plays.Pop)}, 1, []int{0, 1, 2}, true},
		{[]api.Op{push(5), open(plays.Steal, 0), pop(5)}, 1, []int{0, 1, 2}, true},
		{[]api.Op{op(7, 0, 1, 9, true)}, 1, []int{0}, false}, {[]api.Op{op(0, 0, 1, 0, false)}, 1, []int{0}, false}, {[]api.Op{op(7, 0, 1, 0, false)}, 1, nil, true},
		{[]api.Op{op(plays.Push, 5, 1, 2, true), op(plays.Pop, 0, 3, 4, false)}, 1, []int{1, 0}, false},
		{[]api.Op{op(plays.Push, 5, 3, 4, true), op(plays.Pop, 0, 1, 2, false)}, 1, []int{1, 0}, true},
	} {
		kept := slices.Clone(c.l)
		if linear.Fits(c.l, c.room, c.order) != c.want || !slices.Equal(kept, c.l) {
			t.Error(i)
		}
	}
}

// least tells the least order that fits, by trying all.
func least(l []api.Op, room int) ([]int, bool) {
	var grow func(order []int) ([]int, bool)
	grow = func(order []int) ([]int, bool) {
		if linear.Fits(l, room, order) {
			return order, true
		}
		for i := range l {
			if !slices.Contains(order, i) {
				if out, is := grow(append(order[:len(order):len(order)], i)); is {
					return out, true
				}
			}
		}
		return nil, false
	}
	return grow(nil)
}

func TestFind(t *testing.T) { // P29.2
	if o, is, e := linear.Find([]api.Op{steal(5), push(5)}, 1); !slices.Equal(o, []int{1, 0}) || !is || e != api.OK {
		t.Error(o, is, e)
	}
	if o, is, e := linear.Find(nil, 0); len(o) != 0 || !is || e != api.OK {
		t.Error(o, is, e)
	}
	if o, is, e := linear.Find(make([]api.Op, 13), 5); o != nil || is || e != api.ErrLimit {
		t.Error(o, is, e)
	}
	if o, is, e := linear.Find(make([]api.Op, 12), 5); len(o) != 0 || !is || e != api.OK {
		t.Error(o, is, e)
	}
	var hard []api.Op
	for n := range 11 {
		hard = append(hard, push(n))
	}
	if o, is, e := linear.Find(append(hard, steal(99)), 12); o != nil || is || e != api.OK {
		t.Error(o, is, e)
	}
	late := op(plays.Pop, 0, 20, 25, false)
	if o, is, e := linear.Find(append(hard[:11:11], late), 12); o != nil || is || e != api.OK {
		t.Error(o, is, e)
	}
	full := op(plays.Push, 5, 20, 25, false)
	if o, is, e := linear.Find(append(hard[:11:11], full), 12); o != nil || is || e != api.OK {
		t.Error(o, is, e)
	}
	turned := []api.Op{push(1), push(2), op(plays.Steal, 2, 10, 12, true), op(plays.Steal, 1, 20, 22, true)}
	if o, is, e := linear.Find(turned, 12); !slices.Equal(o, []int{1, 0, 2, 3}) || !is || e != api.OK {
		t.Error(o, is, e)
	}
	turned = []api.Op{push(3), op(plays.Steal, 2, 10, 12, true), push(2), op(plays.Pop, 3, 10, 12, true)}
	if o, is, e := linear.Find(turned, 12); !slices.Equal(o, []int{2, 0, 1, 3}) || !is || e != api.OK {
		t.Error(o, is, e)
	}
	turned = []api.Op{push(1), push(3), push(2), op(plays.Steal, 2, 10, 12, true), op(plays.Steal, 3, 20, 22, true), op(plays.Steal, 1, 30, 32, true)}
	if o, is, e := linear.Find(turned, 12); !slices.Equal(o, []int{2, 1, 0, 3, 4, 5}) || !is || e != api.OK {
		t.Error(o, is, e)
	}
	found := 0
	for seed := range 2000 {
		d := sample.New(seed)
		var l []api.Op
		for range d.Below(7) {
			o := op(1+d.Below(3), d.Below(3), 1+d.Below(6), 0, false)
			if d.Below(4) > 0 {
				o.Ended = o.Began + d.Below(5)
				o.OK = d.Below(4) > 0
			}
			if o.Kind != plays.Push && !o.OK {
				o.N = 0
			}
			l = append(l, o)
		}
		room := d.Below(3)
		want, there := least(l, room)
		got, is, e := linear.Find(l, room)
		if e != api.OK || is != there || !slices.Equal(got, want) {
			t.Fatal(l, room, got, want)
		}
		if is {
			found++
		}
	}
	if found < 200 || found > 1800 {
		t.Error(found)
	}
}

func TestPlays(t *testing.T) { // P29.3
	for seed := range 3000 {
		d := sample.New(seed)
		p := plays.Play{Cap: 1 + d.Below(3), Thieves: []int{d.Below(3), d.Below(3)}, Script: d.Script(3, d.Below(120))}
		for i := range d.Below(9) {
			p.Owner = append(p.Owner, (i+1)*d.Below(2))
		}
		l, _, _ := plays.Run(p)
		o, is, e := linear.Find(l, p.Cap)
		if e != api.OK || !is || !linear.Fits(l, p.Cap, o) {
			t.Fatal(seed, l, o, is, e)
		}
	}
}
