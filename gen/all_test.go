package gen_test

import (
	"slices"
	"testing"

	"winnow/api"
)

// every has, by how much they weigh, all numbers, bools and lists of doings that are made of a few parts.
type every struct {
	numbers, bools [][]*tree
	lists          [][][]*tree
}

// pairs has one out of each list, of the weights that come to so much together.
func pairs[A, B any](a [][]A, b [][]B, weight int, do func(A, B)) {
	for w := range min(weight+1, len(a)) {
		if weight-w >= len(b) {
			continue
		}
		for _, x := range a[w] {
			for _, y := range b[weight-w] {
				do(x, y)
			}
		}
	}
}

func (e *every) addNumbers(weight int) {
	var list []*tree
	if weight == 1 {
		list = []*tree{mk(api.RNum, -3), mk(api.RTag, 1).with(mk(api.RX)), mk(api.RTag, 0).with(mk(api.REnd, 2, 1))}
	} else {
		for _, x := range e.numbers[weight-1] {
			list = append(list, mk(api.RNeg).with(x))
		}
	}
	pairs(e.numbers, e.numbers, weight-1, func(x, y *tree) { list = append(list, mk(api.RSub).with(x, y)) })
	e.numbers = append(e.numbers, list)
}

func (e *every) addBools(weight int) {
	var list []*tree
	if weight == 1 {
		list = []*tree{mk(api.RBool, 1), mk(api.RAt, 0)}
	} else {
		for _, x := range e.bools[weight-1] {
			list = append(list, mk(api.RNot).with(x))
		}
	}
	for _, kind := range []int{api.RAnd, api.ROr, api.REq} {
		pairs(e.bools, e.bools, weight-1, func(x, y *tree) { list = append(list, mk(kind).with(x, y)) })
	}
	pairs(e.numbers, e.numbers, weight-1, func(x, y *tree) { list = append(list, mk(api.RLe).with(x, y)) })
	e.bools = append(e.bools, list)
}

// addLists: a list of doings is one that weighs something, and others behind it.
func (e *every) addLists(weight int) {
	var list [][]*tree
	for w := 1; w <= weight; w++ {
		for _, first := range e.doings(w) {
			for _, rest := range e.lists[weight-w] {
				list = append(list, append(slices.Clone(first), rest...))
			}
		}
	}
	e.lists = append(e.lists, list)
}

// doings weigh so much; an RTake has what empties the hand behind it.
func (e *every) doings(weight int) [][]*tree {
	var list [][]*tree
	add := func(x ...*tree) { list = append(list, x) }
	block := func(kids []*tree) *tree { return mk(api.RBlock).with(kids...) }
	if weight == 1 {
		add(mk(api.RForget))
		add(mk(api.RTake, 2, 0), mk(api.RLoose))
	}
	for _, x := range e.numbers[weight-1] {
		add(mk(api.RSet, 1).with(x))
		add(mk(api.RMark, 1).with(mk(api.RX), x))
		add(mk(api.RMark, 1).with(mk(api.REnd, 3, 0), x))
	}
	for _, kids := range e.lists[weight-1] {
		add(block(kids))
	}
	pairs(e.bools, e.lists, weight-1, func(c *tree, kids []*tree) {
		add(mk(api.RIf).with(c, block(kids)))
		add(mk(api.RLoop, 2).with(c, block(kids)))
	})
	for w := range weight {
		for _, c := range e.bools[w] {
			pairs(e.lists, e.lists, weight-1-w, func(yes, no []*tree) { add(mk(api.RIf).with(c, block(yes), block(no))) })
		}
	}
	return list
}

// All that is small: the code, and that a verifier takes it.
func TestEverySmallPlan(t *testing.T) {
	e := &every{numbers: [][]*tree{nil}, bools: [][]*tree{nil}, lists: [][][]*tree{{nil}}}
	plans := 0
	for weight := 1; weight <= 5; weight++ {
		e.addNumbers(weight)
		e.addBools(weight)
		e.addLists(weight)
		for _, kids := range e.lists[weight] {
			p := plan(mk(api.RBlock).with(kids...).flat())
			if plans++; plans%2 == 0 {
				p.On[1] = p.Miss
			}
			if _, fault := verified(wantAsPlain(t, p)); fault != "" {
				t.Fatalf("%v\n%s", p, fault)
			}
		}
	}
	if plans < 19000 {
		t.Errorf("%d plans", plans)
	}
}
