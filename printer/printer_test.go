package printer_test

import (
	"testing"

	"sough/api"
	"sough/grammar"
	"sough/printer"
	"sough/proper"
	"sough/sample"
)

func v(s string) api.Atom { return api.Atom{Var: s} }

func n(re, im int) api.Atom { return api.Atom{N: api.Num{Re: re, Im: im}} }

func TestParts(t *testing.T) { // P5.1
	for i, c := range []struct{ got, want string }{
		{printer.Atom(v("x")), "x"},
		{printer.Atom(n(-3, 0)), "-3"},
		{printer.Atom(n(32768, 1)), "(-32768,1)"},
		{printer.Atom(api.Atom{Var: "x", N: api.Num{Re: 5}}), "x"},
		{printer.Atom(api.Atom{}), "0"},
		{printer.Expr(api.Expr{A: v("x"), B: v("y")}), "x"},
		{printer.Expr(api.Expr{Op: api.OpAdd, A: v("y"), B: n(1, 0)}), "y + 1"},
		{printer.Expr(api.Expr{Op: api.OpSub, A: n(1, 0), B: n(-1, 0)}), "1 - -1"},
		{printer.Expr(api.Expr{Op: api.OpMul, A: n(0, 1), B: v("z")}), "(0,1) * z"},
		{printer.Expr(api.Expr{Op: api.OpConj, A: v("z"), B: v("y")}), "conj z"},
		{printer.Expr(api.Expr{Op: 5, A: v("z")}), ""},
		{printer.Expr(api.Expr{Op: -1, A: v("z")}), ""},
		{printer.Stmt(api.Stmt{Kind: api.StSet, Var: "x", E: api.Expr{Op: api.OpAdd, A: v("y"), B: n(1, 0)}}), "x = y + 1;"},
		{printer.Stmt(api.Stmt{Kind: api.StSet, Var: "x", E: api.Expr{Op: 9}}), "x = ;"},
		{printer.Stmt(api.Stmt{Kind: api.StIn, Var: "x", E: api.Expr{A: v("q")}}), "in x;"},
		{printer.Stmt(api.Stmt{Kind: api.StOut, Var: "q", E: api.Expr{Op: api.OpConj, A: v("x")}}), "out conj x;"},
		{printer.Stmt(api.Stmt{Var: "q"}), ""},
		{printer.Stmt(api.Stmt{Kind: 4, Var: "q"}), ""},
		{printer.Term(api.Term{Kind: api.EndGoto, If: v("x"), To: "a", Else: "b"}), "goto a;"},
		{printer.Term(api.Term{Kind: api.EndIf, If: v("x"), To: "a", Else: "b"}), "if x then a else b;"},
		{printer.Term(api.Term{Kind: api.EndIf, If: n(0, -1), To: "a", Else: "b"}), "if (0,-1) then a else b;"},
		{printer.Term(api.Term{Kind: api.EndRet, To: "a"}), "ret;"},
		{printer.Term(api.Term{To: "a"}), ""},
		{printer.Term(api.Term{Kind: -3}), ""},
	} {
		if c.got != c.want {
			t.Errorf("%d: %q, want %q", i, c.got, c.want)
		}
	}
}

func TestProgram(t *testing.T) { // P5.2
	p, _ := grammar.Parse("block a{in x;y=x*(0,-1);out y;if y then a else b;}block b{ret;}")
	want := "block a {\n\tin x;\n\ty = x * (0,-1);\n\tout y;\n\tif y then a else b;\n}\nblock b {\n\tret;\n}\n"
	if s, e := printer.Program(p); s != want || e != api.OK {
		t.Errorf("%q %v", s, e)
	}
	p.L[1].Name = "a"
	if s, e := printer.Program(p); s != "" || e != api.ErrTwice {
		t.Error(s, e)
	}
	if s, e := printer.Program(api.Program{}); s != "" || e != api.ErrLimit {
		t.Error(s, e)
	}
}

func TestParsedAgain(t *testing.T) { // P5.3
	met := map[string]api.Program{}
	for seed := range 300 {
		p := sample.New(seed).Program(1+seed%3, 2+seed%7, 1+seed%3)
		s, e := printer.Program(p)
		if e != api.OK {
			t.Fatal(e)
		}
		q, f := grammar.Parse(s)
		if f.E != api.OK || !proper.Same(p, q) {
			t.Fatalf("%q: %v", s, f)
		}
		if o, is := met[s]; is && !proper.Same(o, p) {
			t.Fatalf("%q: two programs", s)
		}
		met[s] = p
	}
}
