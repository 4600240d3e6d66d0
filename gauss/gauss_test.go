package gauss_test

import (
	"math"
	"testing"

	"sough/api"
	"sough/gauss"
)

func n(re, im int) api.Num { return api.Num{Re: re, Im: im} }

// some are parts at the edges and beside them.
var some = []int{0, 1, -1, 2, 3, -7, 180, 181, 182, 255, 256, -32768, -32767, 32766, 32767, 12345, -23456}

func eachPair(f func(a, b api.Num)) {
	for i, x := range some {
		for j, y := range some {
			a := n(x, y)
			f(a, n(some[(i+j)%len(some)], some[(3*i+5*j+1)%len(some)]))
			f(a, n(some[(7*i+j+2)%len(some)], some[(i*j)%len(some)]))
		}
	}
}

func TestWrap(t *testing.T) { // P1.1
	for in, want := range map[int]int{0: 0, 32767: 32767, 32768: -32768, -32768: -32768, -32769: 32767, 65536: 0, 65535: -1,
		math.MaxInt: -1, math.MinInt: 0, 1<<40 + 5: 5} {
		if got := gauss.Wrap(in); got != want {
			t.Errorf("Wrap(%d) = %d, want %d", in, got, want)
		}
	}
	if gauss.Of(32768, -32769) != n(-32768, 32767) {
		t.Error(gauss.Of(32768, -32769))
	}
	for _, c := range []struct {
		a    api.Num
		want bool
	}{{n(0, 0), true}, {n(32767, -32768), true}, {n(32768, 0), false}, {n(0, -32769), false}, {n(65536, 0), false}} {
		if gauss.Is(c.a) != c.want {
			t.Error("Is", c.a)
		}
	}
}

func wrap(x int) int { return ((x+32768)%65536+65536)%65536 - 32768 }

func TestOps(t *testing.T) { // P1.1
	eachPair(func(a, b api.Num) {
		want := []api.Num{a, n(wrap(a.Re+b.Re), wrap(a.Im+b.Im)), n(wrap(a.Re-b.Re), wrap(a.Im-b.Im)),
			n(wrap(a.Re*b.Re-a.Im*b.Im), wrap(a.Re*b.Im+a.Im*b.Re)), n(a.Re, wrap(-a.Im))}
		got := []api.Num{a, gauss.Add(a, b), gauss.Sub(a, b), gauss.Mul(a, b), gauss.Conj(a)}
		for op, w := range want {
			x, e := gauss.Op(op, a, b)
			if x != w || e != api.OK || got[op] != w {
				t.Fatalf("op %d of %v and %v: %v, %v, want %v", op, a, b, x, got[op], w)
			}
		}
	})
	for _, op := range []int{-1, 5, 100, math.MinInt} {
		if x, e := gauss.Op(op, n(1, 2), n(3, 4)); e != api.ErrKind || x != n(0, 0) {
			t.Error(op, x, e)
		}
	}
	if x, e := gauss.Op(api.OpAtom, n(32768, 65537), n(9, 9)); x != n(-32768, 1) || e != api.OK {
		t.Error(x, e)
	}
	if gauss.Add(n(65536+2, 0), n(65536*3+1, -65536)) != n(3, 0) || gauss.Mul(n(math.MaxInt, 0), n(5, 65536)) != n(-5, 0) {
		t.Error("parts that aren't wrapped")
	}
	if gauss.Mul(n(0, 1), n(0, 1)) != n(-1, 0) || gauss.Conj(n(0, -32768)) != n(0, -32768) {
		t.Error("examples")
	}
}

func TestTexts(t *testing.T) { // P1.2
	for want, a := range map[string]api.Num{"0": n(0, 0), "-32768": n(32768, 0), "(0,1)": n(0, 1), "(-3,-2)": n(-3, -2),
		"(32767,-32768)": n(32767, 32768), "7": n(7, 65536)} {
		if got := gauss.Text(a); got != want {
			t.Errorf("Text(%v) = %q, want %q", a, got, want)
		}
	}
	for want, a := range map[uint64]api.Num{0: n(0, 0), 0xffff: n(-1, 0), 1 << 16: n(0, 1), 0xffffffff: n(-1, -1),
		0x80007fff: n(32767, -32768), 5: n(65541, 0)} {
		if got := gauss.Word(a); got != want {
			t.Errorf("Word(%v) = %x, want %x", a, got, want)
		}
	}
	eachPair(func(a, _ api.Num) {
		if x, is := gauss.Unword(gauss.Word(a)); !is || x != a {
			t.Error(a, x, is)
		}
	})
	for _, w := range []uint64{1 << 32, math.MaxUint64, 1<<32 + 5} {
		if x, is := gauss.Unword(w); is || x != n(0, 0) {
			t.Error(w, x, is)
		}
	}
}

func TestLaws(t *testing.T) { // P1.3
	eachPair(func(a, b api.Num) {
		c := n(b.Im, a.Re)
		if gauss.Add(a, b) != gauss.Add(b, a) || gauss.Mul(a, b) != gauss.Mul(b, a) {
			t.Fatal("the other way round", a, b)
		}
		if gauss.Add(gauss.Add(a, b), c) != gauss.Add(a, gauss.Add(b, c)) || gauss.Mul(gauss.Mul(a, b), c) != gauss.Mul(a, gauss.Mul(b, c)) {
			t.Fatal("behind one another", a, b, c)
		}
		if gauss.Mul(a, gauss.Add(b, c)) != gauss.Add(gauss.Mul(a, b), gauss.Mul(a, c)) {
			t.Fatal("of a sum", a, b, c)
		}
		if gauss.Conj(gauss.Mul(a, b)) != gauss.Mul(gauss.Conj(a), gauss.Conj(b)) {
			t.Fatal("conj of a product", a, b)
		}
	})
}
