package vm_test

import (
	"slices"

	"winnow/api"
)

// tree is an act with its kids.
type tree struct {
	api.Act
	kids []*tree
}

func mk(kind int, numbers ...int) *tree {
	n := append(slices.Clone(numbers), 0, 0, 0, 0)
	return &tree{Act: api.Act{Kind: kind, A: n[0], B: n[1], C: n[2], D: n[3]}}
}

// with is the act with these kids.
func (x *tree) with(kids ...*tree) *tree {
	x.kids = append(x.kids, kids...)
	x.Kids = len(x.kids)
	return x
}

// flat has the rows of a tree.
func (x *tree) flat() []api.Act {
	list := []api.Act{x.Act}
	for _, kid := range x.kids {
		list = append(list, kid.flat()...)
	}
	return list
}
