package wordset_test

import (
	"math"
	"slices"
	"testing"

	"sough/sample"
	"sough/wordset"
)

func TestOf(t *testing.T) { // P10.1
	for width, want := range map[int]int{0: 0, 1: 1, 63: 1, 64: 1, 65: 2, 1023: 16, 1024: 16, 1025: 16, -1: 0, math.MaxInt: 16, math.MinInt: 0} {
		if got := wordset.Size(width); got != want {
			t.Error(width, got)
		}
		if len(wordset.Of(width)) != want || len(wordset.Full(width)) != want || wordset.Len(wordset.Full(width)) != min(max(width, 0), 1024) {
			t.Error(width)
		}
	}
	if got := wordset.Of(70, 1, 69, 70); !slices.Equal(got, []uint64{2, 1 << 5}) {
		t.Error(got)
	}
	if got := wordset.Of(64, 63, -1, 64, 0, 63, math.MinInt); !slices.Equal(got, []uint64{1<<63 + 1}) {
		t.Error(got)
	}
	if got := wordset.Of(5000, 1023, 1024); wordset.Len(got) != 1 || !wordset.Has(got, 1023) {
		t.Error(got)
	}
	if got := wordset.Full(66); !slices.Equal(got, []uint64{math.MaxUint64, 3}) {
		t.Error(got)
	}
	if got := wordset.Full(128); !slices.Equal(got, []uint64{math.MaxUint64, math.MaxUint64}) {
		t.Error(got)
	}
	if got := wordset.Of(130, 64, 129, 128, 63, 65); !slices.Equal(got, []uint64{1 << 63, 3, 3}) {
		t.Error(got)
	}
	if len(wordset.Of(-5, 0)) != 0 {
		t.Error("below 0")
	}
}

func TestHas(t *testing.T) { // P10.2
	a := []uint64{2, 1 << 63}
	for n, want := range map[int]bool{1: true, 127: true, 0: false, 2: false, 63: false, 65: false, 128: false, 129: false, -1: false, -63: false, math.MaxInt: false, math.MinInt: false} {
		if wordset.Has(a, n) != want {
			t.Error(n)
		}
	}
	if wordset.Has(nil, 0) || len(wordset.List(nil)) != 0 || wordset.Len(nil) != 0 {
		t.Error("nil")
	}
	if got := wordset.List([]uint64{1<<63 | 5, 0, 1}); !slices.Equal(got, []int{0, 2, 63, 128}) || wordset.Len([]uint64{1<<63 | 5, 0, 1}) != 4 {
		t.Error(got)
	}
}

func TestTwo(t *testing.T) { // P10.2
	a, b := []uint64{0b1100}, []uint64{0b1010, 7}
	for i, c := range []struct{ got, want []uint64 }{
		{wordset.Union(a, b), []uint64{0b1110, 7}}, {wordset.Union(b, a), []uint64{0b1110, 7}},
		{wordset.Inter(a, b), []uint64{0b1000, 0}}, {wordset.Inter(b, a), []uint64{0b1000, 0}},
		{wordset.Minus(a, b), []uint64{0b0100, 0}}, {wordset.Minus(b, a), []uint64{0b0010, 7}},
		{wordset.Union(nil, nil), nil}, {wordset.Minus(nil, b), []uint64{0, 0}},
	} {
		if !slices.Equal(c.got, c.want) {
			t.Error(i, c.got)
		}
	}
	if a[0] != 0b1100 || b[0] != 0b1010 {
		t.Error("changed")
	}
	for i, c := range []struct {
		a, b []uint64
		want bool
	}{{nil, nil, true}, {[]uint64{0, 0}, nil, true}, {[]uint64{0, 1}, []uint64{5}, false}, {[]uint64{4}, []uint64{5, 1}, true}, {[]uint64{6}, []uint64{5}, false}} {
		if wordset.Within(c.a, c.b) != c.want {
			t.Error(i)
		}
	}
	for i, c := range []struct {
		a     []uint64
		width int
		want  bool
	}{{nil, 0, true}, {nil, -4, true}, {nil, 1, false}, {[]uint64{0}, 0, false}, {[]uint64{31}, 5, true}, {[]uint64{32}, 5, false}, {[]uint64{math.MaxUint64}, 64, true},
		{[]uint64{0, 0}, 64, false}, {[]uint64{0}, 65, false}, {[]uint64{0, 1}, 65, true}, {[]uint64{0, 2}, 65, false}, {make([]uint64, 16), 4000, true}} {
		if wordset.Fits(c.a, c.width) != c.want {
			t.Error(i)
		}
	}
}

func TestLaws(t *testing.T) { // P10.3
	d := sample.New(3)
	for range 300 {
		a, b := make([]uint64, d.Below(4)), make([]uint64, d.Below(4))
		for _, x := range [][]uint64{a, b} {
			for i := range x {
				x[i] = d.Word() & d.Word()
			}
		}
		u, in := wordset.Union(a, b), wordset.Inter(a, b)
		if wordset.Len(u)+wordset.Len(in) != wordset.Len(a)+wordset.Len(b) {
			t.Fatal(a, b)
		}
		whole := wordset.Union(wordset.Minus(a, b), in)
		if !wordset.Within(whole, a) || !wordset.Within(a, whole) || wordset.Len(wordset.Inter(wordset.Minus(a, b), in)) != 0 {
			t.Fatal(a, b)
		}
		for _, n := range wordset.List(u) {
			if !wordset.Has(a, n) && !wordset.Has(b, n) {
				t.Fatal(a, b, n)
			}
		}
	}
}
