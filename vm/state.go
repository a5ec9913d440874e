package vm

import (
	"slices"

	"winnow/api"
	"winnow/arena"
	"winnow/index"
)

// none stands where a node or a place of the code would, and there is none.
const none = -1

// entry is what a node holds: a key and its tags. (None is above MaxTag: a byte holds it.)
type entry struct {
	key  uint64
	tags [api.MaxTags]uint8
}

// state is what operations change. Each queue is a list. The hand is one, too: so what is taken keeps its node, and the index need not be told.
type state struct {
	nodes *arena.Arena[entry]
	keys  *index.Index[int] // the node of each key
	vars  [api.MaxVars]int
}

func (l *law) emptyState() state {
	var s state
	s.nodes, _ = arena.New[entry](l.nodes, l.hand+1)
	s.keys, _ = index.New[int](l.nodes)
	for v, of := range l.Vars {
		s.vars[v] = of.Init
	}
	return s
}

func (s *state) twin() state {
	return state{nodes: s.nodes.Twin(), keys: s.keys.Twin(), vars: s.vars}
}

// find is the node of a key, or none.
func (s *state) find(key uint64) int {
	if node, is := s.keys.Get(key); is {
		return node
	}
	return none
}

// add lets an entry of a key that has none stand at an end of a list: its node. There must be a free one.
func (s *state) add(list, end int, e entry) int {
	node, _ := s.nodes.Push(list, end, e)
	s.keys.Put(e.key, node)
	return node
}

// lose lets a node's entry be no more: what it was.
func (s *state) lose(node int) entry {
	e, _ := s.nodes.Unlink(node)
	s.keys.Drop(e.key)
	return e
}

// spot is where a node stands: its list, and its neighbours towards each end.
type spot struct {
	list   int
	beside [2]int
}

func (s *state) spot(node int) spot {
	list, _ := s.nodes.List(node)
	return spot{list, [2]int{s.next(node, api.Front), s.next(node, api.Back)}}
}

func (s *state) next(node, end int) int {
	if other, is := s.nodes.Next(node, end); is {
		return other
	}
	return none
}

// nearer is the end to which fewer nodes lie between it and a spot.
func (s *state) nearer(at spot) int {
	ahead, behind := at.beside[api.Front], at.beside[api.Back]
	for ahead != none && behind != none {
		ahead, behind = s.next(ahead, api.Front), s.next(behind, api.Back)
	}
	if ahead == none {
		return api.Front
	}
	return api.Back
}

// restore lets a node stand where it stood. A list lets none in but at its ends: so it goes to the nearer end, and those between go there behind it, one by one.
func (s *state) restore(node int, at spot) {
	end := s.nearer(at)
	s.nodes.Move(node, at.list, end)
	for other := at.beside[end]; other != none && other != node; {
		further := s.next(other, end)
		s.nodes.Move(other, at.list, end)
		other = further
	}
}

// What a change is.
const (
	came = iota
	went
	moved
	marked
)

// change is one of a node.
type change struct {
	kind, node int
	at         spot  // where it stood; of went and moved
	was        entry // what it held; of went and marked
}

// undo brings back what was ahead of changes: the last one is undone first. So an entry that went gets its own node again: that is the one that was freed last.
func (s *state) undo(changes []change) {
	for _, c := range slices.Backward(changes) {
		switch c.kind {
		case came:
			s.lose(c.node)
		case went:
			s.restore(s.add(c.at.list, api.Front, c.was), c.at)
		case moved:
			s.restore(c.node, c.at)
		case marked:
			s.nodes.Set(c.node, c.was)
		}
	}
}
