package arena

import "winnow/api"

// pageSize: memory comes for so many nodes at once, so that no Push has to move those that are there.
const pageSize = 64

// none stands where a number of a node or of a list would, and there is none.
const none = -1

// slot is the memory of a node.
type slot[T any] struct {
	beside [2]int // the neighbour towards each end; of a freed one: at Front, the one that was freed before it
	list   int    // none: it is free
	held   T
}

// chain is a list: the nodes at its ends, none and none if it is empty, and how many there are.
type chain struct {
	last  [2]int
	count int
}

func emptyLists(n int) []chain {
	lists := make([]chain, n)
	for i := range lists {
		lists[i].last = [2]int{none, none}
	}
	return lists
}

func isEnd(end int) bool { return end == api.Front || end == api.Back }

// found tells a number as the faces do.
func found(n int) (int, bool) {
	if n == none {
		return 0, false
	}
	return n, true
}

// at tells the memory of a node that was ever in a list.
func (a *Arena[T]) at(node int) *slot[T] { return &a.pages[node/pageSize][node%pageSize] }

func (a *Arena[T]) hasNode(node int) bool { return node >= 0 && node < a.size }

func (a *Arena[T]) hasList(list int) bool { return list >= 0 && list < len(a.lists) }

func (a *Arena[T]) isLinked(node int) bool {
	return node >= 0 && node < a.used && a.at(node).list != none
}

// refusal tells why nothing can be done with a node that has to be in a list.
func (a *Arena[T]) refusal(node int) api.Errno {
	if !a.hasNode(node) {
		return api.ErrArg
	}
	if !a.isLinked(node) {
		return api.ErrWhere
	}
	return api.OK
}

// take has a free node leave the free ones; there must be one.
func (a *Arena[T]) take() int {
	a.free--
	if a.freed == none {
		return a.fresh()
	}
	node := a.freed
	a.freed = a.at(node).beside[api.Front]
	return node
}

// fresh is the least node that was never in a list; there must be one.
func (a *Arena[T]) fresh() int {
	node := a.used
	if node%pageSize == 0 {
		a.pages = append(a.pages, make([]slot[T], min(pageSize, a.size-node)))
	}
	a.used++
	return node
}

// give has a node that is in no list be free: what it held, which is kept no longer.
func (a *Arena[T]) give(node int) T {
	n := a.at(node)
	held := n.held
	*n = slot[T]{beside: [2]int{api.Front: a.freed}, list: none}
	a.freed = node
	a.free++
	return held
}

// link lays a node that is in no list at an end of one.
func (a *Arena[T]) link(node, list, end int) {
	n, l := a.at(node), &a.lists[list]
	behind := l.last[end]
	n.list = list
	n.beside[end], n.beside[1-end] = none, behind
	if behind == none {
		l.last[1-end] = node
	} else {
		a.at(behind).beside[end] = node
	}
	l.last[end] = node
	l.count++
}

// unlink has a node's neighbours be each other's.
func (a *Arena[T]) unlink(node int) {
	n := a.at(node)
	l := &a.lists[n.list]
	for end, next := range n.beside {
		if next == none {
			l.last[end] = n.beside[1-end]
		} else {
			a.at(next).beside[1-end] = n.beside[1-end]
		}
	}
	l.count--
}
