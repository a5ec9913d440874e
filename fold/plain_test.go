package fold_test

import (
	"slices"

	"winnow/api"
)

// The chapter read plainly: trees whose kids are slices; what is left is looked for from row 0 on, each time anew.

// twin is a tree apart.
func (x *tree) twin() *tree {
	out := &tree{Act: x.Act}
	for _, kid := range x.kids {
		out.kids = append(out.kids, kid.twin())
	}
	return out
}

func (x *tree) is(kind int, a ...int) bool {
	return x.Kind == kind && (len(a) == 0 || x.A == a[0])
}

func isTold(x *tree) bool { return x.is(api.RNum) || x.is(api.RBool) }

// harmless is a word of the chapter.
func harmless(x *tree) bool {
	return !slices.ContainsFunc(x.flat(), func(a api.Act) bool { return a.Kind == api.RTag })
}

func sameRows(x, y *tree) bool { return slices.Equal(x.flat(), y.flat()) }

// reckon is row 1 of the table: the machine's own way to reckon, of no state.
func reckon(x *tree) *tree {
	if table[x.Kind].is == "number" {
		return mk(api.RNum, new(plain).number(x))
	}
	if new(plain).is(x) {
		return mk(api.RBool, 1)
	}
	return mk(api.RBool, 0)
}

// place is a row that stands among its parent's kids (parent: nil of row 0).
type place struct {
	parent *tree
	at     int
}

// fit is what is left, and what is to stand in the place of so many rows from there on.
type fit struct {
	what    int
	instead []*tree
	rows    int
}

func only(what int, list ...*tree) *fit { return &fit{what, list, 1} }

// fitting goes through the table from its top; nil: none fits.
func fitting(x *tree, at place) *fit {
	for _, look := range []func(*tree) *fit{known, junction, unary, neutral, equal, branching, looping} {
		if f := look(x); f != nil {
			return f
		}
	}
	switch {
	case x.is(api.RSet) && x.kids[0].is(api.RVar, x.A):
		return only(16)
	case x.is(api.RBlock) && at.parent != nil && at.parent.is(api.RBlock):
		return only(17, x.kids...)
	case x.is(api.RTake):
		return handed(x, at)
	case x.is(api.RBlock) && at.parent == nil && len(x.kids) == 0:
		return only(19)
	}
	return nil
}

// known: 1.
func known(x *tree) *fit {
	signs := []int{api.RNeg, api.RMin, api.RMax, api.RMul, api.RDiv, api.RAdd, api.RSub, api.REq, api.RLt, api.RLe, api.RNot}
	if !slices.Contains(signs, x.Kind) || slices.ContainsFunc(x.kids, func(kid *tree) bool { return !isTold(kid) }) {
		return nil
	}
	return only(1, reckon(x))
}

// junction: 2 and 3. on is the bool with which the other kid counts.
func junction(x *tree) *fit {
	if !x.is(api.RAnd) && !x.is(api.ROr) {
		return nil
	}
	on := map[int]int{api.RAnd: 1, api.ROr: 0}[x.Kind]
	a, b := x.kids[0], x.kids[1]
	switch {
	case a.is(api.RBool, on):
		return only(2, b)
	case a.is(api.RBool):
		return only(2, a)
	case b.is(api.RBool, on):
		return only(3, a)
	case b.is(api.RBool) && harmless(a):
		return only(3, b)
	}
	return nil
}

// unary: 4.
func unary(x *tree) *fit {
	if (x.is(api.RNot) || x.is(api.RNeg)) && x.kids[0].is(x.Kind) {
		return only(4, x.kids[0].kids[0])
	}
	return nil
}

// neutral: 5 and 6.
func neutral(x *tree) *fit {
	if len(x.kids) != 2 {
		return nil
	}
	a, b := x.kids[0], x.kids[1]
	switch {
	case x.is(api.RAdd) && a.is(api.RNum, 0), x.is(api.RMul) && a.is(api.RNum, 1):
		return only(5, b)
	case x.is(api.RAdd) && b.is(api.RNum, 0), x.is(api.RSub) && b.is(api.RNum, 0), x.is(api.RMul) && b.is(api.RNum, 1), x.is(api.RDiv) && b.is(api.RNum, 1):
		return only(5, a)
	case x.is(api.RMul) && a.is(api.RNum, 0) && harmless(b), x.is(api.RMul) && b.is(api.RNum, 0) && harmless(a):
		return only(6, mk(api.RNum, 0))
	}
	return nil
}

// equal: 7.
func equal(x *tree) *fit {
	if !x.is(api.REq) {
		return nil
	}
	for i, kid := range x.kids {
		other := x.kids[1-i]
		if kid.is(api.RBool, 1) {
			return only(7, other)
		}
		if kid.is(api.RBool, 0) {
			return only(7, mk(api.RNot).with(other))
		}
	}
	return nil
}

// branching: 8 to 13.
func branching(x *tree) *fit {
	if !x.is(api.RIf) {
		return nil
	}
	c, yes, no := x.kids[0], x.kids[1], x.kids[2:]
	of := func(c, yes *tree, no ...*tree) *tree { return mk(api.RIf).with(c, yes).with(no...) }
	// begins tells whether a block's first kid is an RIf of the same rows; then what stands in that kid's place.
	begins := func(block *tree) bool {
		return len(block.kids) > 0 && block.kids[0].is(api.RIf) && sameRows(block.kids[0].kids[0], c)
	}
	but := func(block *tree, first ...*tree) *tree { return mk(api.RBlock).with(first...).with(block.kids[1:]...) }
	switch {
	case c.is(api.RBool, 1):
		return only(8, yes)
	case c.is(api.RBool, 0):
		return only(8, no...)
	case c.is(api.RNot) && len(no) == 0:
		return only(9, of(c.kids[0], mk(api.RBlock), yes))
	case c.is(api.RNot):
		return only(9, of(c.kids[0], no[0], yes))
	case len(no) == 1 && len(no[0].kids) == 0:
		return only(10, of(c, yes))
	case harmless(c) && len(yes.kids) == 0 && len(no) == 0:
		return only(11)
	case begins(yes):
		return only(12, of(c, but(yes, yes.kids[0].kids[1]), no...))
	case len(no) == 1 && begins(no[0]):
		return only(13, of(c, yes, but(no[0], no[0].kids[0].kids[2:]...)))
	}
	return nil
}

// looping: 14 and 15.
func looping(x *tree) *fit {
	switch {
	case !x.is(api.RLoop):
		return nil
	case x.A == 0, x.kids[0].is(api.RBool, 0), harmless(x.kids[0]) && len(x.kids[1].kids) == 0:
		return only(14)
	case x.A == 1:
		return only(15, mk(api.RIf).with(x.kids...))
	}
	return nil
}

// handed: 18.
func handed(x *tree, at place) *fit {
	var kinds []int
	behind := at.parent.kids[at.at:]
	for _, a := range behind[:min(3, len(behind))] {
		kinds = append(kinds, a.Kind)
	}
	begin := func(list ...int) bool { return len(kinds) >= len(list) && slices.Equal(kinds[:len(list)], list) }
	switch {
	case begin(api.RTake, api.RGive):
		return &fit{18, []*tree{mk(api.RShift, x.A, x.B, behind[1].A, behind[1].B)}, 2}
	case begin(api.RTake, api.RTell, api.RLoose):
		return &fit{18, []*tree{mk(api.REvict, x.A, x.B)}, 3}
	case begin(api.RTake, api.RTell, api.RGive):
		return &fit{18, []*tree{mk(api.RSpill, x.A, x.B, behind[2].A, behind[2].B)}, 3}
	case begin(api.RTake, api.RLoose):
		return &fit{18, []*tree{mk(api.RDrop, x.A, x.B)}, 2}
	}
	panic("the hand")
}

// firstFit is the first row at which something is left, by its number.
func firstFit(x *tree) (row int, at place, f *fit) {
	row = -1
	var walk func(x *tree, here place) bool
	walk = func(x *tree, here place) bool {
		row++
		if f = fitting(x, here); f != nil {
			at = here
			return true
		}
		for i, kid := range x.kids {
			if walk(kid, place{x, i}) {
				return true
			}
		}
		return false
	}
	if x != nil {
		walk(x, place{})
	}
	return row, at, f
}

// step does what is left first in an event's rows; what is 0, if nothing is.
func step(rows []api.Act) (row, what int, after []api.Act) {
	x, _ := grow(rows)
	row, at, f := firstFit(x)
	if f == nil {
		return 0, 0, rows
	}
	if at.parent == nil {
		// Row 0 alone has no row above, and of what is left there all goes.
		return row, f.what, nil
	}
	kids := slices.Replace(slices.Clone(at.parent.kids), at.at, at.at+f.rows, f.instead...)
	at.parent.kids, at.parent.Kids = kids, len(kids)
	return row, f.what, x.flat()
}

// plainLeft is P1301, of a right plan; plainOnce what P1302 makes of it.
func plainLeft(p api.Plan) (event, row, what int, is bool) {
	for q, rows := range p.On {
		if row, what, _ := step(rows); what > 0 {
			return q, row, what, true
		}
	}
	if row, what, _ := step(p.Miss); what > 0 {
		return -1, row, what, true
	}
	return 0, 0, 0, false
}

func plainOnce(p api.Plan) api.Plan {
	out := p
	out.On = slices.Clone(p.On)
	for q, rows := range p.On {
		if _, what, after := step(rows); what > 0 {
			out.On[q] = after
			return out
		}
	}
	_, _, out.Miss = step(p.Miss)
	return out
}

// plainRun is P1303: again and again; and it counts what was done. Events do not bear on each other.
func plainRun(p api.Plan, count map[int]int) api.Plan {
	end := func(rows []api.Act) []api.Act {
		for {
			_, what, after := step(rows)
			if what == 0 {
				return rows
			}
			count[what]++
			rows = after
		}
	}
	out := p
	out.On = slices.Clone(p.On)
	for q := range out.On {
		out.On[q] = end(out.On[q])
	}
	out.Miss = end(out.Miss)
	return out
}
