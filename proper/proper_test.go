package proper_test

import (
	"fmt"
	"slices"
	"testing"

	"sough/api"
	"sough/grammar"
	"sough/proper"
	"sough/sample"
)

func v(s string) api.Atom { return api.Atom{Var: s} }

func ret(name string, l ...api.Stmt) api.Block {
	return api.Block{Name: name, L: l, T: api.Term{Kind: api.EndRet}}
}

func prog(l ...api.Block) api.Program { return api.Program{L: l} }

func in(s string) api.Stmt { return api.Stmt{Kind: api.StIn, Var: s} }

func set(s string, x api.Expr) api.Stmt { return api.Stmt{Kind: api.StSet, Var: s, E: x} }

func out(x api.Expr) api.Stmt { return api.Stmt{Kind: api.StOut, E: x} }

func end(t api.Term) api.Program { return prog(api.Block{Name: "a", T: t}) }

func many(blocks, stmts, vars int) api.Program {
	var p api.Program
	for i := range blocks {
		p.L = append(p.L, ret(fmt.Sprint("b", i)))
	}
	for i := range stmts {
		p.L[0].L = append(p.L[0].L, in(fmt.Sprint("v", i%vars)))
	}
	return p
}

func TestCheck(t *testing.T) { // P4.1
	num := api.Atom{N: api.Num{Re: 5}}
	bad := api.Atom{N: api.Num{Re: 32768}}
	both := api.Atom{Var: "x", N: api.Num{Im: 1}}
	for i, c := range []struct {
		p    api.Program
		want api.Errno
	}{
		{prog(), api.ErrLimit},
		{many(128, 512, 64), api.OK},
		{many(129, 0, 1), api.ErrLimit},
		{many(1, 513, 1), api.ErrLimit},
		{many(1, 65, 65), api.ErrLimit},
		{prog(ret("")), api.ErrForm},
		{prog(ret("if")), api.ErrForm},
		{prog(ret("1a")), api.ErrForm},
		{prog(ret("abcdefghijklm")), api.ErrForm},
		{prog(ret("a", api.Stmt{})), api.ErrForm},
		{prog(ret("a", api.Stmt{Kind: 4, Var: "x"})), api.ErrForm},
		{prog(ret("a", api.Stmt{Kind: -1})), api.ErrForm},
		{prog(ret("a", in(""))), api.ErrForm},
		{prog(ret("a", in("in"))), api.ErrForm},
		{prog(ret("a", api.Stmt{Kind: api.StIn, Var: "x", E: api.Expr{A: num}})), api.ErrForm},
		{prog(ret("a", api.Stmt{Kind: api.StIn, Var: "x", E: api.Expr{Op: 1}})), api.ErrForm},
		{prog(ret("a", set("x", api.Expr{}))), api.OK},
		{prog(ret("a", set("", api.Expr{}))), api.ErrForm},
		{prog(ret("a", set("x", api.Expr{Op: 5}))), api.ErrForm},
		{prog(ret("a", set("x", api.Expr{Op: -1}))), api.ErrForm},
		{prog(ret("a", set("x", api.Expr{A: num, B: num}))), api.ErrForm},
		{prog(ret("a", set("x", api.Expr{Op: api.OpConj, A: num, B: v("y")}))), api.ErrForm},
		{prog(ret("a", set("x", api.Expr{Op: api.OpConj, A: v("y")}))), api.OK},
		{prog(ret("a", set("x", api.Expr{Op: api.OpMul, A: v("y"), B: num}))), api.OK},
		{prog(ret("a", set("x", api.Expr{Op: api.OpMul, A: v("y"), B: bad}))), api.ErrForm},
		{prog(ret("a", set("x", api.Expr{Op: api.OpAdd, A: v("y "), B: num}))), api.ErrForm},
		{prog(ret("a", set("x", api.Expr{Op: api.OpAdd, A: both, B: num}))), api.ErrForm},
		{prog(ret("a", out(api.Expr{A: v("x")}))), api.OK},
		{prog(ret("a", out(api.Expr{Op: api.OpConj, A: v("x")}))), api.ErrForm},
		{prog(ret("a", out(api.Expr{A: bad}))), api.ErrForm},
		{prog(ret("a", api.Stmt{Kind: api.StOut, Var: "x", E: api.Expr{A: num}})), api.ErrForm},
		{end(api.Term{}), api.ErrForm},
		{end(api.Term{Kind: 4}), api.ErrForm},
		{end(api.Term{Kind: api.EndRet, To: "a"}), api.ErrForm},
		{end(api.Term{Kind: api.EndRet, If: v("x")}), api.ErrForm},
		{end(api.Term{Kind: api.EndGoto, To: "a"}), api.OK},
		{end(api.Term{Kind: api.EndGoto, To: "a", Else: "a"}), api.ErrForm},
		{end(api.Term{Kind: api.EndGoto, To: "a", If: num}), api.ErrForm},
		{end(api.Term{Kind: api.EndGoto}), api.ErrForm},
		{end(api.Term{Kind: api.EndGoto, To: "goto"}), api.ErrForm},
		{end(api.Term{Kind: api.EndGoto, To: "b"}), api.ErrName},
		{end(api.Term{Kind: api.EndIf, If: v("x"), To: "a", Else: "a"}), api.OK},
		{end(api.Term{Kind: api.EndIf, If: bad, To: "a", Else: "a"}), api.ErrForm},
		{end(api.Term{Kind: api.EndIf, If: v("x"), To: "a"}), api.ErrForm},
		{end(api.Term{Kind: api.EndIf, If: v("x"), To: "a", Else: "b"}), api.ErrName},
		{prog(ret("a"), ret("a")), api.ErrTwice},
		{prog(api.Block{Name: "a", T: api.Term{Kind: api.EndGoto, To: "b"}}, ret("a")), api.ErrTwice},
		{prog(ret("a"), ret("a"), ret("0")), api.ErrForm},
		{prog(append(many(1, 65, 65).L, ret("0"))...), api.ErrForm},
		{prog(append(many(1, 65, 65).L, ret("b0"))...), api.ErrLimit},
	} {
		if e := proper.Check(c.p); e != c.want {
			t.Errorf("%d: %v, want %v", i, e, c.want)
		}
	}
}

func TestSame(t *testing.T) { // P4.2
	p := sample.New(1).Program(5, 6, 4)
	q := proper.Clone(p)
	if !proper.Same(p, q) || !proper.Same(prog(), api.Program{L: []api.Block{}}) || proper.Same(p, prog()) {
		t.Error("same")
	}
	if !proper.Same(prog(ret("a")), prog(api.Block{Name: "a", L: []api.Stmt{}, T: api.Term{Kind: api.EndRet}})) {
		t.Error("nil lists")
	}
	p.L[1].L = append(p.L[1].L, in("x"))
	if proper.Same(p, q) {
		t.Error("a statement more")
	}
	q = proper.Clone(p)
	q.L[1].L[0].Var = "other"
	q.L[0].Name = "other"
	if p.L[1].L[0].Var == "other" || p.L[0].Name == "other" || proper.Same(p, q) {
		t.Error("shared")
	}
	q = proper.Clone(p)
	q.L[2].T = api.Term{Kind: 9}
	if proper.Same(p, q) {
		t.Error("an end")
	}
}

func TestParts(t *testing.T) { // P4.2
	p := prog(
		ret("b", api.Stmt{Kind: 9, Var: "z", E: api.Expr{Op: 77, A: v("y"), B: v("x")}}, in("y"), in("")),
		api.Block{Name: "a", L: []api.Stmt{out(api.Expr{Op: api.OpConj, B: v("Q")})}, T: api.Term{Kind: 7, If: v("w"), To: "no"}})
	if got := proper.Vars(p); !slices.Equal(got, []string{"Q", "w", "x", "y", "z"}) {
		t.Error(got)
	}
	if proper.Stmts(p) != 4 || proper.Stmts(prog()) != 0 || len(proper.Vars(prog())) != 0 {
		t.Error(proper.Stmts(p))
	}
	for op := -1; op < 6; op++ {
		x := api.Expr{Op: op, A: v("a"), B: v("b")}
		want := map[int][]api.Atom{0: {v("a")}, 4: {v("a")}, 1: {v("a"), v("b")}, 2: {v("a"), v("b")}, 3: {v("a"), v("b")}}[op]
		if got := proper.Atoms(x); !slices.Equal(got, want) || (want == nil) != (got == nil) {
			t.Error(op, got)
		}
	}
}

func TestParsed(t *testing.T) { // P4.3
	for _, s := range []string{"block a{ret;}", "block a{x=(-1,-32768);y=conj x;in z;out -5;if z then a else b;}block b{goto a;}"} {
		p, f := grammar.Parse(s)
		if f.E != api.OK || proper.Check(p) != api.OK {
			t.Error(s, f, proper.Check(p))
		}
	}
	for seed := range 100 {
		if e := proper.Check(sample.New(seed).Program(1+seed%9, 8, 1+seed%5)); e != api.OK {
			t.Error(seed, e)
		}
	}
}
