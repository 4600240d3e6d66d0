package token_test

import (
	"slices"
	"strings"
	"testing"

	"sough/api"
	"sough/token"
)

func tok(kind, at int, s string, n int) api.Token { return api.Token{Kind: kind, At: at, S: s, N: n} }

func TestWords(t *testing.T) { // P2.1
	for _, w := range strings.Fields("block goto if then else ret in out conj") {
		if !token.Word(w) || token.Name(w) {
			t.Error(w)
		}
	}
	for _, w := range []string{"", "Block", "blocks", "i", "in ", "end", "{", "0"} {
		if token.Word(w) {
			t.Error(w)
		}
	}
	for _, s := range []string{"a", "Z", "_", "x1", "blocks", "In", "abcdefghijkl", "_0_9aZ", "AZaz"} {
		if !token.Name(s) {
			t.Error(s)
		}
	}
	for _, s := range []string{"", "1", "1x", "abcdefghijklm", "a b", " a", "a\n", "ä", "a-", "a{", "a@", "a[", "a`"} {
		if token.Name(s) {
			t.Error(s)
		}
	}
}

func TestOf(t *testing.T) { // P2.2
	for s, want := range map[string][]api.Token{
		"":             {tok(0, 0, "", 0)},
		" \t\n":        {tok(0, 3, "", 0)},
		"# block $":    {tok(0, 9, "", 0)},
		"x=1":          {tok(1, 0, "x", 0), tok(3, 1, "=", 0), tok(2, 2, "1", 1), tok(0, 3, "", 0)},
		"a#b\nc#":      {tok(1, 0, "a", 0), tok(1, 4, "c", 0), tok(0, 6, "", 0)},
		"if ifx 5ab":   {tok(4, 0, "if", 0), tok(1, 3, "ifx", 0), tok(2, 7, "5", 5), tok(1, 8, "ab", 0), tok(0, 10, "", 0)},
		"32768,0":      {tok(2, 0, "32768", 32768), tok(3, 5, ",", 0), tok(2, 6, "0", 0), tok(0, 7, "", 0)},
		"{};=+-*(),":   {tok(3, 0, "{", 0), tok(3, 1, "}", 0), tok(3, 2, ";", 0), tok(3, 3, "=", 0), tok(3, 4, "+", 0), tok(3, 5, "-", 0), tok(3, 6, "*", 0), tok(3, 7, "(", 0), tok(3, 8, ")", 0), tok(3, 9, ",", 0), tok(0, 10, "", 0)},
		"abcdefghijkl": {tok(1, 0, "abcdefghijkl", 0), tok(0, 12, "", 0)},
	} {
		l, f := token.Of(s)
		if f != (api.Fault{}) || !slices.Equal(l, want) {
			t.Errorf("%q: %v %v", s, l, f)
		}
	}
	long := strings.Repeat(" ", api.MaxText)
	if l, f := token.Of(long); f.E != api.OK || len(l) != 1 || l[0].At != api.MaxText {
		t.Error(l, f)
	}
	for s, want := range map[string]api.Fault{
		long + " ":                       {E: api.ErrLimit},
		long + "$":                       {E: api.ErrLimit},
		"a abcdefghijklm $":              {E: api.ErrLimit, At: 2},
		"x 32769":                        {E: api.ErrLimit, At: 2},
		"x 032769":                       {E: api.ErrLimit, At: 2},
		"x 00":                           {E: api.ErrSyntax, At: 2},
		"x 032768":                       {E: api.ErrSyntax, At: 2},
		"1 " + strings.Repeat("9", 1000): {E: api.ErrLimit, At: 2},
		strings.Repeat("0", 1000):        {E: api.ErrSyntax},
		"a\rb":                           {E: api.ErrSyntax, At: 1},
		"a\x00":                          {E: api.ErrSyntax, At: 1},
		"ab ä":                           {E: api.ErrSyntax, At: 3},
		"a@":                             {E: api.ErrSyntax, At: 1},
		"a.b":                            {E: api.ErrSyntax, At: 1},
	} {
		if l, f := token.Of(s); f != want || len(l) != 0 {
			t.Errorf("%.20q: %v %v, want %v", s, l, f, want)
		}
	}
}

func TestShow(t *testing.T) { // P2.3
	for _, x := range []api.Token{tok(4, 7, "block", 0), tok(1, -3, "x_1", 0), tok(2, 0, "32768", 32768), tok(2, 0, "0", 0), tok(3, 9, ";", 0)} {
		if s, is := token.Show(x); !is || s != x.S {
			t.Error(x, s, is)
		}
	}
	for _, x := range []api.Token{{}, tok(0, 0, "x", 0), tok(0, 5, "", 0), tok(1, 0, "block", 0), tok(4, 0, "x", 0), tok(2, 0, "32769", 32769),
		tok(2, 0, "5", 6), tok(2, 0, "05", 5), tok(2, 0, "-5", -5), tok(3, 0, "$", 0), tok(3, 0, ";;", 0), tok(1, 0, " x", 0), tok(1, 0, "x ", 0),
		tok(1, 0, "x#", 0), tok(1, 0, "x", 1), tok(3, 0, ";", 1), tok(4, 0, "if", 2), tok(5, 0, "x", 0), tok(-1, 0, "x", 0), tok(1, 0, "abcdefghijklm", 0), tok(1, 0, "", 0),
		tok(1, 0, strings.Repeat("a", api.MaxText+1), 0)} {
		if s, is := token.Show(x); is || s != "" {
			t.Error(x, s, is)
		}
	}
}

func TestShown(t *testing.T) { // P2.4
	for _, s := range []string{"", "block a{in x;y=x*-3;# z\nout(1,-2);ret;}", "1 2 3a b_ if thenx then 32768", "((,)){=}"} {
		l, f := token.Of(s)
		if f.E != api.OK {
			t.Fatal(s, f)
		}
		var shown []string
		for _, x := range l[:len(l)-1] {
			w, is := token.Show(x)
			if !is {
				t.Fatal(x)
			}
			shown = append(shown, w)
		}
		m, f := token.Of(strings.Join(shown, " "))
		if f.E != api.OK || len(m) != len(l) {
			t.Fatal(s, m, f)
		}
		for i := range l {
			l[i].At, m[i].At = 0, 0
		}
		if !slices.Equal(l, m) {
			t.Error(s, l, m)
		}
	}
}
