package absm

import (
	"maps"
	"slices"

	"winnow/api"
)

// state is what operations change.
type state struct {
	queues []sequence
	vars   [api.MaxVars]int
	where  map[uint64]int // the queue of each key that is at one
}

func emptyState(p api.Program) state {
	s := state{queues: make([]sequence, len(p.Ghost)), where: map[uint64]int{}}
	for v, of := range p.Vars {
		s.vars[v] = of.Init
	}
	return s
}

// place is the queue at which a key is, or none.
func (s *state) place(key uint64) int {
	if q, is := s.where[key]; is {
		return q
	}
	return none
}

// put lets an entry that is at no queue stand at one, with so many ahead of it.
func (s *state) put(q, at int, e entry) {
	s.queues[q].put(at, e)
	s.where[e.key] = q
}

// pull takes out the entry of a queue that so many are ahead of.
func (s *state) pull(q, at int) entry {
	e := s.queues[q].pull(at)
	delete(s.where, e.key)
	return e
}

// What a change is.
const (
	came = iota
	went
	marked
)

// change is one of the entry at a place of a queue.
type change struct {
	kind, queue, at int
	was             entry // what stood there ahead of it; of came nothing
}

// undo brings back what was ahead of changes: the last one is undone first.
func (s *state) undo(changes []change) {
	for _, c := range slices.Backward(changes) {
		switch c.kind {
		case came:
			s.pull(c.queue, c.at)
		case went:
			s.put(c.queue, c.at, c.was)
		case marked:
			s.queues[c.queue].entries()[c.at] = c.was
		}
	}
}

func (s *state) twin() state {
	other := state{queues: make([]sequence, len(s.queues)), vars: s.vars, where: maps.Clone(s.where)}
	for q := range s.queues {
		other.queues[q] = s.queues[q].twin()
	}
	return other
}
