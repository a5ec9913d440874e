package gen_test

import (
	"regexp"
	"slices"
	"strconv"
	"strings"

	"winnow/api"
)

// words are the kinds' names, from RBlock on.
var words = strings.Fields("block if loop set mark insert move forget take give tell loose shift spill evict drop x end num bool var len total at tag min max neg not mul div add sub eq lt le and or")

// tree is an act with its kids.
type tree struct {
	api.Act
	kids []*tree
}

func mk(kind int, numbers ...int) *tree {
	n := append(slices.Clone(numbers), 0, 0, 0, 0)
	return &tree{Act: api.Act{Kind: kind, A: n[0], B: n[1], C: n[2], D: n[3]}}
}

// with is the act with these kids.
func (x *tree) with(kids ...*tree) *tree {
	x.kids = append(x.kids, kids...)
	x.Kids = len(x.kids)
	return x
}

// flat has the rows of a tree.
func (x *tree) flat() []api.Act {
	if x == nil {
		return nil
	}
	var list []api.Act
	var add func(x *tree)
	add = func(x *tree) {
		list = append(list, x.Act)
		for _, kid := range x.kids {
			add(kid)
		}
	}
	add(x)
	return list
}

// grow reads a tree, and tells what stands behind it; nil, if there are too few rows.
func grow(rows []api.Act) (*tree, []api.Act) {
	if len(rows) == 0 || rows[0].Kids < 0 {
		return nil, nil
	}
	x := &tree{Act: rows[0]}
	rows = rows[1:]
	for i := 0; i < x.Kids; i++ {
		var kid *tree
		if kid, rows = grow(rows); kid == nil {
			return nil, nil
		}
		x.kids = append(x.kids, kid)
	}
	return x, rows
}

var parts = regexp.MustCompile(`[a-z]+|-?[0-9]+|[(),]`)

// acts reads rows such as "block(if(at 1, block), insert 0 0)".
func acts(text string) []api.Act {
	list := parts.FindAllString(text, -1)
	x, rest := read(list)
	if len(rest) > 0 {
		panic(text)
	}
	return x.flat()
}

func read(list []string) (*tree, []string) {
	kind := slices.Index(words, list[0]) + 1
	if kind == 0 {
		panic(list[0])
	}
	list = list[1:]
	var numbers []int
	for len(list) > 0 && strings.ContainsAny(list[0], "0123456789") {
		n, _ := strconv.Atoi(list[0])
		numbers, list = append(numbers, n), list[1:]
	}
	x := mk(kind, numbers...)
	if len(list) == 0 || list[0] != "(" {
		return x, list
	}
	for list[0] != ")" {
		var kid *tree
		kid, list = read(list[1:])
		x.with(kid)
	}
	return x, list[1:]
}

// entry is a row of chapter 12's table of acts.
type entry struct{ numbers, kids, is string }

var table = map[int]entry{
	api.RBlock:  {"", "doings", "block"},
	api.RIf:     {"", "bool block block?", "doing"},
	api.RLoop:   {"rounds", "bool block", "doing"},
	api.RSet:    {"v", "number", "doing"},
	api.RMark:   {"t", "item number", "doing"},
	api.RInsert: {"q e", "", "doing"}, api.RMove: {"resident e", "", "doing"},
	api.RForget: {"", "", "doing"},
	api.RTake:   {"q e", "", "doing"}, api.RGive: {"q e", "", "doing"},
	api.RTell: {"", "", "doing"}, api.RLoose: {"", "", "doing"},
	api.RShift: {"q e like e", "", "doing"}, api.RSpill: {"resident e ghost e", "", "doing"},
	api.REvict: {"resident e", "", "doing"}, api.RDrop: {"ghost e", "", "doing"},
	api.RX: {"", "", "item"}, api.REnd: {"q e", "", "item"},
	api.RNum:  {"num", "", "number"},
	api.RBool: {"bit", "", "bool"},
	api.RVar:  {"v", "", "number"}, api.RLen: {"q", "", "number"}, api.RTotal: {"", "", "number"},
	api.RAt:  {"q", "", "bool"},
	api.RTag: {"t", "item", "number"},
	api.RMin: {"", "number number", "number"}, api.RMax: {"", "number number", "number"}, api.RMul: {"", "number number", "number"},
	api.RDiv: {"", "number number", "number"}, api.RAdd: {"", "number number", "number"}, api.RSub: {"", "number number", "number"},
	api.RNeg: {"", "number", "number"},
	api.REq:  {"", "same same", "bool"},
	api.RLt:  {"", "number number", "bool"}, api.RLe: {"", "number number", "bool"},
	api.RNot: {"", "bool", "bool"},
	api.RAnd: {"", "bool bool", "bool"}, api.ROr: {"", "bool bool", "bool"},
}

// isRight is P1201, read plainly.
func isRight(p api.Plan) bool {
	if len(p.Ghost) > 16 || len(p.Vars) > 16 || len(p.Tags) > 4 || len(p.On) != len(p.Ghost) {
		return false
	}
	for _, v := range p.Vars {
		if !(v.Lo <= v.Init && v.Init <= v.Hi) || v.Lo < -(1<<30) || v.Hi > 1<<30 {
			return false
		}
	}
	for _, n := range p.Tags {
		if n < 1 || n > 255 {
			return false
		}
	}
	rows := 0
	for _, event := range append([][]api.Act{p.Miss}, p.On...) {
		rows += len(event)
		if len(event) == 0 {
			continue
		}
		x, rest := grow(event)
		if x == nil || len(rest) > 0 || x.Kind != api.RBlock || !isRightTree(p, x) {
			return false
		}
	}
	return rows <= 131072
}

func isNumber(p api.Plan, x *tree, word string, n int) bool {
	in := func(lo, hi int) bool { return lo <= n && n <= hi }
	queue := in(0, len(p.Ghost)-1)
	switch word {
	case "rounds":
		return in(0, 4194304)
	case "v":
		return in(0, len(p.Vars)-1)
	case "t":
		return in(0, len(p.Tags)-1)
	case "e", "bit":
		return in(0, 1)
	case "num":
		return in(-1073741824, 1073741824)
	case "q":
		return queue
	case "resident":
		return queue && !p.Ghost[n]
	case "ghost":
		return queue && p.Ghost[n]
	case "like":
		return queue && p.Ghost[n] == p.Ghost[x.A]
	}
	return n == 0
}

func isRightTree(p api.Plan, x *tree) bool {
	e, is := table[x.Kind]
	if !is {
		return false
	}
	use := append(strings.Fields(e.numbers), "", "", "", "")
	for i, n := range []int{x.A, x.B, x.C, x.D} {
		if !isNumber(p, x, use[i], n) {
			return false
		}
	}
	var kids []string
	for _, kid := range x.kids {
		if !isRightTree(p, kid) {
			return false
		}
		kids = append(kids, table[kid.Kind].is)
	}
	if (e.is == "number" || e.is == "bool") && wants(x) > 256 {
		return false
	}
	switch have := strings.Join(kids, " "); x.Kind {
	case api.RBlock:
		return !slices.ContainsFunc(kids, func(is string) bool { return is != "doing" && is != "block" }) && isHandled(p, x.kids)
	case api.RIf:
		return have == "bool block" || have == "bool block block"
	case api.REq:
		return have == "bool bool" || have == "number number"
	default:
		return have == e.kids
	}
}

// handled are the hand's ways: what is taken and given is r or g, by its queue's kind.
var handled = regexp.MustCompile(`^(other |take r give r |take g give g |take g loose |take r tell loose |take r tell give g )*$`)

func isHandled(p api.Plan, kids []*tree) bool {
	text := ""
	for _, kid := range kids {
		kind := ""
		if kid.Kind == api.RTake || kid.Kind == api.RGive {
			kind = map[bool]string{false: "r ", true: "g "}[p.Ghost[kid.A]]
		}
		if kid.Kind >= api.RTake && kid.Kind <= api.RLoose {
			text += words[kid.Kind-1] + " " + kind
		} else {
			text += "other "
		}
	}
	return handled.MatchString(text)
}

// wants is what an expression wants of operands.
func wants(x *tree) int {
	var list []int
	for _, kid := range x.kids {
		if table[kid.Kind].is != "item" {
			list = append(list, wants(kid))
		}
	}
	switch {
	case len(list) == 0:
		return 1
	case len(list) == 1:
		return list[0]
	case x.Kind != api.RAnd && x.Kind != api.ROr:
		list[1]++
	}
	return slices.Max(list)
}
