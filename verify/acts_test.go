package verify_test

import (
	"regexp"
	"slices"
	"strconv"
	"strings"

	"winnow/api"
)

// words are the kinds' names, from RBlock on.
var words = strings.Fields("block if loop set mark insert move forget take give tell loose shift spill evict drop x end num bool var len total at tag min max neg not mul div add sub eq lt le and or")

// tree is an act with its kids.
type tree struct {
	api.Act
	kids []*tree
}

func mk(kind int, numbers ...int) *tree {
	n := append(slices.Clone(numbers), 0, 0, 0, 0)
	return &tree{Act: api.Act{Kind: kind, A: n[0], B: n[1], C: n[2], D: n[3]}}
}

// with is the act with these kids.
func (x *tree) with(kids ...*tree) *tree {
	x.kids = append(x.kids, kids...)
	x.Kids = len(x.kids)
	return x
}

// flat has the rows of a tree.
func (x *tree) flat() []api.Act {
	if x == nil {
		return nil
	}
	var list []api.Act
	var add func(x *tree)
	add = func(x *tree) {
		list = append(list, x.Act)
		for _, kid := range x.kids {
			add(kid)
		}
	}
	add(x)
	return list
}

var parts = regexp.MustCompile(`[a-z]+|-?[0-9]+|[(),]`)

// acts reads rows such as "block(if(at 1, block), insert 0 0)".
func acts(text string) []api.Act {
	list := parts.FindAllString(text, -1)
	x, rest := read(list)
	if len(rest) > 0 {
		panic(text)
	}
	return x.flat()
}

func read(list []string) (*tree, []string) {
	kind := slices.Index(words, list[0]) + 1
	if kind == 0 {
		panic(list[0])
	}
	list = list[1:]
	var numbers []int
	for len(list) > 0 && strings.ContainsAny(list[0], "0123456789") {
		n, _ := strconv.Atoi(list[0])
		numbers, list = append(numbers, n), list[1:]
	}
	x := mk(kind, numbers...)
	if len(list) == 0 || list[0] != "(" {
		return x, list
	}
	for list[0] != ")" {
		var kid *tree
		kid, list = read(list[1:])
		x.with(kid)
	}
	return x, list[1:]
}
