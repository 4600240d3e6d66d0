package sample

import "sough/api"

// Value tells a value of a lattice of that kind and width.
func (d *Dice) Value(what, width int) []uint64 {
	var a []uint64
	if what == api.Flat {
		for range width {
			a = append(a, d.known())
		}
		return a
	}
	for i := 0; i < width; i += 64 {
		w := d.Word()
		if d.Below(2) == 0 {
			w &= d.Word()
		}
		if rest := width - i; rest < 64 {
			w &= 1<<rest - 1
		}
		a = append(a, w)
	}
	return a
}

// known tells a word of what is known of a number.
func (d *Dice) known() uint64 {
	if k := d.Below(5); k < 2 {
		return uint64(k)
	}
	return 2 + 4*uint64(d.Below(3))
}

func (d *Dice) ref(width int) api.Ref {
	if d.Below(3) == 0 {
		return api.Ref{Var: -1, N: d.Num()}
	}
	return api.Ref{Var: d.Below(width)}
}

// Trans tells what a node does with such values.
func (d *Dice) Trans(what, width int) api.Trans {
	if what != api.Flat {
		return api.Trans{Gen: d.sparse(what, width), Kill: d.sparse(what, width)}
	}
	var t api.Trans
	for range d.Below(4) {
		if width == 0 {
			break
		}
		c := api.Code{Var: d.Below(width), Op: d.Below(6) - 1}
		if c.Op >= 0 {
			c.A, c.B = d.ref(width), d.ref(width)
		}
		t.L = append(t.L, c)
	}
	return t
}

// sparse tells a value with few numbers.
func (d *Dice) sparse(what, width int) []uint64 {
	a, b := d.Value(what, width), d.Value(what, width)
	for i := range a {
		a[i] &= b[i]
	}
	return a
}

// System tells a right system of so many nodes and edges.
func (d *Dice) System(what, width, nodes, edges int) api.System {
	s := api.System{What: what, Width: width, Nodes: nodes, Edges: d.Edges(nodes, edges), Init: d.Value(what, width)}
	for range 1 + d.Below(2) {
		s.Entry = append(s.Entry, d.Below(nodes))
	}
	for range nodes {
		s.T = append(s.T, d.Trans(what, width))
	}
	return s
}

// Any tells a small right system.
func (d *Dice) Any() api.System {
	what, width, nodes := 1+d.Below(3), d.Below(5), 1+d.Below(6)
	if d.Below(8) == 0 {
		width = 66
	}
	return d.System(what, width, nodes, d.Below(2*nodes+2))
}
