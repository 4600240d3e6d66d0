package grammar_test

import (
	"fmt"
	"reflect"
	"strings"
	"testing"

	"sough/api"
	"sough/grammar"
)

func v(s string) api.Atom   { return api.Atom{Var: s} }
func n(re, im int) api.Atom { return api.Atom{N: api.Num{Re: re, Im: im}} }

const all = `block a { in n; k = (-1,2); goto b_1; }
# a remark
block b_1 { m = n * -2; n = n - 1; l = n + m; l = conj 5; l = -32768; out m; out 3; if n then b_1 else c; }
block c { ret; }`

func TestTree(t *testing.T) { // P3.1, P3.2
	p, f := grammar.Parse(all)
	if f != (api.Fault{}) {
		t.Fatal(f)
	}
	want := api.Program{L: []api.Block{
		{Name: "a", L: []api.Stmt{{Kind: api.StIn, Var: "n"}, {Kind: api.StSet, Var: "k", E: api.Expr{A: n(-1, 2)}}},
			T: api.Term{Kind: api.EndGoto, To: "b_1"}},
		{Name: "b_1", L: []api.Stmt{
			{Kind: api.StSet, Var: "m", E: api.Expr{Op: api.OpMul, A: v("n"), B: n(-2, 0)}},
			{Kind: api.StSet, Var: "n", E: api.Expr{Op: api.OpSub, A: v("n"), B: n(1, 0)}},
			{Kind: api.StSet, Var: "l", E: api.Expr{Op: api.OpAdd, A: v("n"), B: v("m")}},
			{Kind: api.StSet, Var: "l", E: api.Expr{Op: api.OpConj, A: n(5, 0)}},
			{Kind: api.StSet, Var: "l", E: api.Expr{A: n(-32768, 0)}},
			{Kind: api.StOut, E: api.Expr{A: v("m")}},
			{Kind: api.StOut, E: api.Expr{A: n(3, 0)}},
		}, T: api.Term{Kind: api.EndIf, If: v("n"), To: "b_1", Else: "c"}},
		{Name: "c", T: api.Term{Kind: api.EndRet}},
	}}
	if !reflect.DeepEqual(p, want) {
		t.Errorf("%+v", p)
	}
}

func blocks(k int) string {
	var b strings.Builder
	for i := range k {
		fmt.Fprintf(&b, "block b%d{ret;}", i)
	}
	return b.String()
}

func stmts(k int) string { return "block a{" + strings.Repeat("x=1;", k) + "ret;}" }

func vars(k int) string {
	var b strings.Builder
	for i := range k {
		fmt.Fprintf(&b, "in v%d;", i)
	}
	return "block a{" + b.String() + "ret;}"
}

func TestFaults(t *testing.T) { // P3.3
	for s, want := range map[string]api.Fault{
		"":                                               {E: api.ErrSyntax},
		"  # x":                                          {E: api.ErrSyntax, At: 5},
		"x":                                              {E: api.ErrSyntax},
		"block":                                          {E: api.ErrSyntax, At: 5},
		"block if":                                       {E: api.ErrSyntax, At: 6},
		"block a { }":                                    {E: api.ErrSyntax, At: 10},
		"block a { ret }":                                {E: api.ErrSyntax, At: 14},
		"block a { ret; ":                                {E: api.ErrSyntax, At: 15},
		"block a { ret; } x":                             {E: api.ErrSyntax, At: 17},
		"block a { ret; ret; }":                          {E: api.ErrSyntax, At: 15},
		"block a { x = ; ret; }":                         {E: api.ErrSyntax, At: 14},
		"block a { x = - y; ret; }":                      {E: api.ErrSyntax, At: 16},
		"block a { x = (1; ret; }":                       {E: api.ErrSyntax, At: 16},
		"block a { x = (y,1); ret; }":                    {E: api.ErrSyntax, At: 15},
		"block a { x = (1,2; ret; }":                     {E: api.ErrSyntax, At: 18},
		"block a { x = conj y * z; ret; }":               {E: api.ErrSyntax, At: 21},
		"block a { x = y + z + u; ret; }":                {E: api.ErrSyntax, At: 20},
		"block a { x = y + conj z; ret; }":               {E: api.ErrSyntax, At: 18},
		"block a { out y + z; ret; }":                    {E: api.ErrSyntax, At: 16},
		"block a { in 3; ret; }":                         {E: api.ErrSyntax, At: 13},
		"block a { if x goto a; }":                       {E: api.ErrSyntax, At: 15},
		"block a { if x then a; }":                       {E: api.ErrSyntax, At: 21},
		"block a { goto if; }":                           {E: api.ErrSyntax, At: 15},
		"block a { x 1; ret; }":                          {E: api.ErrSyntax, At: 12},
		"block a { goto b; }":                            {E: api.ErrName, At: 15},
		"block a { if 1 then a else b; }":                {E: api.ErrName, At: 27},
		"block a { if 1 then b else b; }":                {E: api.ErrName, At: 20},
		"block a { ret; } block a { ret; }":              {E: api.ErrTwice, At: 23},
		"block a { goto b; } block a { ret; }":           {E: api.ErrName, At: 15},
		"block a { ret; } block a { goto b; }":           {E: api.ErrTwice, At: 23},
		"block a { goto b; } block b { ret; ":            {E: api.ErrSyntax, At: 35},
		"block a { goto b; } block a { ret; } $":         {E: api.ErrSyntax, At: 37},
		"block a { x = 32768; ret; }":                    {E: api.ErrLimit, At: 14},
		"block a { x = (1, 32768); ret; }":               {E: api.ErrLimit, At: 18},
		"block a { x = 1 - 32768; ret; }":                {E: api.ErrLimit, At: 18},
		"block a { x = 1 - -32769; ret; }":               {E: api.ErrLimit, At: 19},
		"x abcdefghijklm":                                {E: api.ErrLimit, At: 2},
		blocks(129):                                      {E: api.ErrLimit, At: len(blocks(128))},
		blocks(128) + "block 5":                          {E: api.ErrLimit, At: len(blocks(128))},
		stmts(513):                                       {E: api.ErrLimit, At: 8 + 4*512},
		stmts(512)[:8+4*512] + "out":                     {E: api.ErrLimit, At: 8 + 4*512},
		stmts(512) + "block b{in x;ret;}":                {E: api.ErrLimit, At: len(stmts(512)) + 8},
		vars(65):                                         {E: api.ErrLimit, At: strings.Index(vars(65), "v64")},
		strings.Replace(vars(64), "ret", "out w;ret", 1): {E: api.ErrLimit, At: strings.Index(vars(64), "ret") + 4},
		strings.Replace(vars(64), "ret", "if w then a else a", 1):       {E: api.ErrLimit, At: strings.Index(vars(64), "ret") + 3},
		strings.Replace(vars(64), "ret", "v0=v1+w;v0=1", 1):             {E: api.ErrLimit, At: strings.Index(vars(64), "ret") + 6},
		strings.Repeat(" ", api.MaxText) + "x":                          {E: api.ErrLimit},
		strings.Replace(vars(64), "block a", "block a{ret;}block a", 1): {E: api.ErrTwice, At: 19},
	} {
		if p, f := grammar.Parse(s); f != want || p.L != nil {
			t.Errorf("%.60q: %v, want %v", s, f, want)
		}
	}
	for _, s := range []string{blocks(128), stmts(512), vars(64), "block a{goto a;}", "block b{if 1 then c else b;}block c{ret;}",
		strings.Replace(vars(64), "ret", "goto a", 1), "block a { x = -32768 - -32768; y = (32767,-32768); ret; }"} {
		if _, f := grammar.Parse(s); f != (api.Fault{}) {
			t.Errorf("%.60q: %v", s, f)
		}
	}
}

func TestExpr(t *testing.T) { // P3.4
	for s, want := range map[string]api.Expr{
		"x":           {A: v("x")},
		"-5":          {A: n(-5, 0)},
		"(1,-2)":      {A: n(1, -2)},
		" x +# \n y ": {Op: api.OpAdd, A: v("x"), B: v("y")},
		"1--1":        {Op: api.OpSub, A: n(1, 0), B: n(-1, 0)},
		"x * (0,1)":   {Op: api.OpMul, A: v("x"), B: n(0, 1)},
		"conj x":      {Op: api.OpConj, A: v("x")},
	} {
		if x, f := grammar.Expr(s); f != (api.Fault{}) || x != want {
			t.Errorf("%q: %v %v", s, x, f)
		}
	}
	for s, want := range map[string]api.Fault{
		"": {E: api.ErrSyntax}, "x;": {E: api.ErrSyntax, At: 1}, "x y": {E: api.ErrSyntax, At: 2}, "conj": {E: api.ErrSyntax, At: 4},
		"x +": {E: api.ErrSyntax, At: 3}, "x + y + z": {E: api.ErrSyntax, At: 6}, "32768": {E: api.ErrLimit}, "x $": {E: api.ErrSyntax, At: 2},
		"conj conj x": {E: api.ErrSyntax, At: 5}, "ret": {E: api.ErrSyntax}, "x * 40000": {E: api.ErrLimit, At: 4}, "(1,2": {E: api.ErrSyntax, At: 4},
	} {
		if x, f := grammar.Expr(s); f != want || x != (api.Expr{}) {
			t.Errorf("%q: %v %v, want %v", s, x, f, want)
		}
	}
}

func TestBlanks(t *testing.T) { // P3.5
	p, _ := grammar.Parse(all)
	for _, gap := range []string{"\n\n", "\t# { $ }\n", "  "} {
		s := strings.ReplaceAll(all, "# a remark", "")
		s = strings.NewReplacer(" ", gap, ";", gap+";"+gap, "(", "("+gap, "*", gap+"*").Replace(s)
		q, f := grammar.Parse(s)
		if f != (api.Fault{}) || !reflect.DeepEqual(p, q) {
			t.Errorf("%q: %v", gap, f)
		}
	}
	f := "block a { ret ret; }"
	_, x := grammar.Parse(f)
	_, y := grammar.Parse(strings.ReplaceAll(f, " ", "  #\n "))
	if x.E != y.E || x.E != api.ErrSyntax || x.At == y.At {
		t.Error(x, y)
	}
}
