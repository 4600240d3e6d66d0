// Package sample makes programs, graphs and numbers for the tests: the same
// ones of the same seed.
package sample

import (
	"strconv"

	"sough/api"
)

// Dice tells numbers, one behind the other.
type Dice struct{ x uint64 }

// New tells dice of that seed.
func New(seed int) *Dice { return &Dice{x: uint64(seed)*0x9e3779b97f4a7c15 + 12345} }

// Word tells the next 64 bits.
func (d *Dice) Word() uint64 {
	d.x += 0x9e3779b97f4a7c15
	z := d.x
	z = (z ^ z>>30) * 0xbf58476d1ce4e5b9
	z = (z ^ z>>27) * 0x94d049bb133111eb
	return z ^ z>>31
}

// Below tells a number from 0 to n - 1, or 0.
func (d *Dice) Below(n int) int {
	if n < 1 {
		return 0
	}
	return int(d.Word() % uint64(n))
}

// Num tells a number, mostly a small one.
func (d *Dice) Num() api.Num {
	switch d.Below(6) {
	case 0:
		return api.Num{Re: d.Below(65536) + api.MinPart, Im: d.Below(65536) + api.MinPart}
	case 1:
		return api.Num{Re: d.Below(5) - 2, Im: d.Below(5) - 2}
	case 2:
		return api.Num{}
	}
	return api.Num{Re: d.Below(7) - 2}
}

// Nums tells that many numbers.
func (d *Dice) Nums(n int) []api.Num {
	var l []api.Num
	for range n {
		l = append(l, d.Num())
	}
	return l
}

// Atom tells one of so many variables, or a number.
func (d *Dice) Atom(vars int) api.Atom {
	if vars > 0 && d.Below(3) > 0 {
		return api.Atom{Var: "v" + strconv.Itoa(d.Below(vars))}
	}
	return api.Atom{N: d.Num()}
}

// Expr tells an expression.
func (d *Dice) Expr(vars int) api.Expr {
	x := api.Expr{Op: d.Below(5), A: d.Atom(vars)}
	if x.Op != api.OpAtom && x.Op != api.OpConj {
		x.B = d.Atom(vars)
	}
	return x
}

// Stmt tells a statement.
func (d *Dice) Stmt(vars int) api.Stmt {
	v := "v" + strconv.Itoa(d.Below(vars))
	switch d.Below(6) {
	case 0:
		return api.Stmt{Kind: api.StIn, Var: v}
	case 1:
		return api.Stmt{Kind: api.StOut, E: api.Expr{A: d.Atom(vars)}}
	}
	return api.Stmt{Kind: api.StSet, Var: v, E: d.Expr(vars)}
}

// Term tells an end that goes to one of so many blocks.
func (d *Dice) Term(blocks, vars int) api.Term {
	to := "b" + strconv.Itoa(d.Below(blocks))
	switch d.Below(5) {
	case 0:
		return api.Term{Kind: api.EndRet}
	case 1, 2:
		return api.Term{Kind: api.EndGoto, To: to}
	}
	return api.Term{Kind: api.EndIf, If: d.Atom(vars), To: to, Else: "b" + strconv.Itoa(d.Below(blocks))}
}

// Program tells a proper program of so many blocks, of fewer statements than
// stmts each, with so many variables at most.
func (d *Dice) Program(blocks, stmts, vars int) api.Program {
	var p api.Program
	for i := range blocks {
		b := api.Block{Name: "b" + strconv.Itoa(i), T: d.Term(blocks, vars)}
		for range d.Below(stmts) {
			b.L = append(b.L, d.Stmt(vars))
		}
		p.L = append(p.L, b)
	}
	return p
}

// Edges tells so many edges between n nodes.
func (d *Dice) Edges(n, edges int) []api.Edge {
	var l []api.Edge
	for range edges {
		l = append(l, api.Edge{From: d.Below(n), To: d.Below(n)})
	}
	return l
}

// Script tells so many picks of so many workers.
func (d *Dice) Script(workers, long int) []api.Pick {
	var l []api.Pick
	for range long {
		l = append(l, api.Pick{Worker: d.Below(workers), Draw: d.Below(200) - 100})
	}
	return l
}
