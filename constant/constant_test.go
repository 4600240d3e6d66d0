package constant_test

import (
	"math"
	"testing"

	"sough/api"
	"sough/constant"
	"sough/gauss"
)

func of(re, im int) uint64 { return constant.Of(api.Num{Re: re, Im: im}) }

// words are all kinds of words; the last ones are none.
var words = []uint64{0, 1, of(0, 0), of(1, 0), of(2, 0), of(-1, -1), of(0, 1), of(-32768, 32767), 3, 4, 5, 7, 2 + 4<<32, 1 << 63, math.MaxUint64}

func TestWords(t *testing.T) { // P11.1
	if of(0, 0) != 2 || of(1, 0) != 6 || of(-1, -1) != 2+4*0xffffffff || of(65536, 0) != 2 || of(0, 1) != 2+4<<16 {
		t.Error(of(1, 0))
	}
	for i, w := range words {
		n, is := constant.Num(w)
		number := i >= 2 && i < 8
		if is != number || constant.Is(w) != (i < 8) || is && constant.Of(n) != w || !is && n != (api.Num{}) {
			t.Error(w, n, is)
		}
	}
	if n, is := constant.Num(of(-5, 32768)); !is || n != (api.Num{Re: -5, Im: -32768}) {
		t.Error(n, is)
	}
}

func TestJoin(t *testing.T) { // P11.2
	a, b := of(1, 0), of(2, 0)
	for i, c := range []struct{ a, b, want uint64 }{{0, 0, 0}, {0, a, a}, {a, 0, a}, {a, a, a}, {a, b, 1}, {1, a, 1}, {b, 1, 1}, {0, 1, 1}, {1, 1, 1},
		{3, 3, 1}, {0, 4, 1}, {a, 1 << 63, 1}, {2 + 4<<32, 0, 1}} {
		if got := constant.Join(c.a, c.b); got != c.want {
			t.Error(i, got)
		}
	}
	for i, c := range []struct {
		a, b uint64
		want bool
	}{{0, 0, true}, {0, a, true}, {a, 0, false}, {a, b, false}, {a, 1, true}, {1, a, false}, {1, 3, true}, {3, 1, true}, {3, 4, true}, {a, 5, true}, {5, a, false}, {1, 0, false}} {
		if constant.Below(c.a, c.b) != c.want {
			t.Error(i)
		}
	}
	for w, want := range map[uint64]int{0: 0, 1: 2, a: 1, 3: 2, math.MaxUint64: 2} {
		if constant.Rank(w) != want {
			t.Error(w)
		}
	}
}

func TestOp(t *testing.T) { // P11.3
	for op := -1; op < 7; op++ {
		for _, a := range words {
			for _, b := range words {
				x, xis := constant.Num(a)
				y, yis := constant.Num(b)
				one := op == api.OpAtom || op == api.OpConj
				want := uint64(constant.Any)
				n, e := gauss.Op(op, x, y)
				switch {
				case a == 0 || b == 0 && !one:
					want = constant.Never
				case xis && (yis || one) && e == api.OK:
					want = constant.Of(n)
				}
				if got := constant.Op(op, a, b); got != want {
					t.Fatal(op, a, b, got, want)
				}
			}
		}
	}
	if constant.Op(api.OpMul, of(0, 0), constant.Any) != constant.Any {
		t.Error("example")
	}
	for w, want := range map[uint64]string{0: "!", 1: "?", 3: "?", of(-3, 0): "-3", of(1, -1): "(1,-1)", 2 + 4<<32: "?"} {
		if got := constant.Text(w); got != want {
			t.Error(w, got)
		}
	}
}

func TestLaws(t *testing.T) { // P11.4
	for _, a := range words {
		for _, b := range words {
			j := constant.Join(a, b)
			if !constant.Below(a, j) || !constant.Below(b, j) {
				t.Fatal(a, b, j)
			}
			for _, c := range words {
				if constant.Below(a, c) && constant.Below(b, c) && !constant.Below(j, c) {
					t.Fatal("least", a, b, c)
				}
				for op := -1; op < 6; op++ {
					if constant.Below(a, b) && (!constant.Below(constant.Op(op, a, c), constant.Op(op, b, c)) || !constant.Below(constant.Op(op, c, a), constant.Op(op, c, b))) {
						t.Fatal("monotone", op, a, b, c)
					}
				}
			}
		}
	}
}
