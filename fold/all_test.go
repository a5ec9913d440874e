package fold_test

import (
	"testing"

	"winnow/api"
)

// every has, by their weight, all numbers, bools and lists of doings that are made of a few parts; some parts weigh 1, though they have several rows.
type every struct {
	numbers, bools [][]*tree
	lists          [][][]*tree
}

// pairs has one out of each list, of the weights that come to so much together.
func pairs[A, B any](a [][]A, b [][]B, weight int, do func(A, B)) {
	for w := range min(weight+1, len(a)) {
		if weight-w >= len(b) {
			continue
		}
		for _, x := range a[w] {
			for _, y := range b[weight-w] {
				do(x, y)
			}
		}
	}
}

func (e *every) addNumbers(weight int) {
	var list []*tree
	add := func(x *tree) { list = append(list, x) }
	if weight == 1 {
		list = []*tree{mk(api.RNum, 0), mk(api.RNum, 1), mk(api.RNum, -3), mk(api.RVar, 0), mk(api.RTag, 0).with(mk(api.RX))}
	}
	if weight > 1 {
		for _, x := range e.numbers[weight-1] {
			add(mk(api.RNeg).with(x))
		}
	}
	for _, kind := range []int{api.RMin, api.RMul, api.RDiv, api.RAdd, api.RSub} {
		pairs(e.numbers, e.numbers, weight-1, func(x, y *tree) { add(mk(kind).with(x, y)) })
	}
	e.numbers = append(e.numbers, list)
}

func (e *every) addBools(weight int) {
	var list []*tree
	add := func(x *tree) { list = append(list, x) }
	if weight == 1 {
		list = []*tree{mk(api.RBool, 0), mk(api.RBool, 1), mk(api.RAt, 0), mk(api.RLt).with(mk(api.RTag, 0).with(mk(api.RX)), mk(api.RNum, 2))}
	}
	if weight > 1 {
		for _, x := range e.bools[weight-1] {
			add(mk(api.RNot).with(x))
		}
	}
	for _, kind := range []int{api.RAnd, api.ROr, api.REq} {
		pairs(e.bools, e.bools, weight-1, func(x, y *tree) { add(mk(kind).with(x, y)) })
	}
	e.bools = append(e.bools, list)
}

// addLists: a list of doings is one that weighs something, and others behind it.
func (e *every) addLists(weight int) {
	var list [][]*tree
	block := func(kids []*tree) *tree { return mk(api.RBlock).with(kids...) }
	for w := 1; w <= weight; w++ {
		for _, first := range e.doings(w, block) {
			for _, rest := range e.lists[weight-w] {
				list = append(list, append(append([]*tree{}, first...), rest...))
			}
		}
	}
	e.lists = append(e.lists, list)
}

// doings weigh so much; an RTake has what empties the hand behind it.
func (e *every) doings(weight int, block func([]*tree) *tree) [][]*tree {
	var list [][]*tree
	add := func(x ...*tree) { list = append(list, x) }
	if weight == 1 {
		add(mk(api.RForget))
		add(mk(api.RSet, 0).with(mk(api.RVar, 0)))
		add(mk(api.RTake, 2, 0), mk(api.RLoose))
	}
	for _, kids := range e.lists[weight-1] {
		add(block(kids))
	}
	pairs(e.bools, e.lists, weight-1, func(c *tree, kids []*tree) {
		add(mk(api.RIf).with(c, block(kids)))
		for rounds := range 3 {
			add(mk(api.RLoop, rounds).with(c, block(kids)))
		}
	})
	for w := range weight {
		for _, c := range e.bools[w] {
			pairs(e.lists, e.lists, weight-1-w, func(yes, no []*tree) { add(mk(api.RIf).with(c, block(yes), block(no))) })
		}
	}
	return list
}

// All that is small.
func TestEverySmallPlan(t *testing.T) {
	e := &every{numbers: [][]*tree{nil}, bools: [][]*tree{nil}, lists: [][][]*tree{{nil}}}
	for weight := 1; weight <= 5; weight++ {
		e.addNumbers(weight)
		e.addBools(weight)
		e.addLists(weight)
	}
	count := map[int]int{}
	plans := 0
	want := func(kids ...*tree) {
		plans++
		wantAsPlain(t, plan(mk(api.RBlock).with(kids...).flat()), count)
	}
	for _, list := range e.numbers {
		for _, x := range list {
			want(mk(api.RSet, 1).with(x))
		}
	}
	for _, list := range e.bools {
		for _, x := range list {
			want(mk(api.RLoop, 2).with(x, mk(api.RBlock).with(mk(api.RForget))))
		}
	}
	for _, list := range e.lists {
		for _, kids := range list {
			want(kids...)
		}
	}
	for what := 1; what <= 19; what++ {
		if plans < 70000 || count[what] < 100 {
			t.Errorf("%d plans; %d was met %d times", plans, what, count[what])
		}
	}
}
