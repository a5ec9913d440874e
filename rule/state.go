package rule

import "winnow/api"

// none is the number of no node, and of no queue.
const none = -1

// state is what operations change.
type state struct {
	sums  sums
	nodes []node
	where map[uint64]int // the node of each key that is somewhere
	op    int            // how many operations were begun
}

// sums is the part of a state that is small: it is copied ahead of each operation. The nodes are kept one by one, as they are changed.
type sums struct {
	queues [api.MaxQueues]queue
	vars   [api.MaxVars]int
	total  int
	free   int // the first node that holds no entry; each knows the next one as its neighbour at the front
}

// queue is the nodes at its front and at its back, and how many there are.
type queue struct {
	ends [2]int
	n    int
}

// node holds an entry. In the hand, and free, it is at no queue.
type node struct {
	key    uint64
	tags   [api.MaxTags]int
	queue  int
	beside [2]int // its neighbours, toward the front and toward the back
	kept   int    // the last operation that kept it
}

// keep is a node as it was ahead of an operation.
type keep struct {
	at   int
	node node
}

// run is an operation, and what it needs to be undone.
type run struct {
	key     uint64
	x       int // the key's node
	hand    int // the node in the hand
	evicted []uint64
	before  sums
	made    int  // how many nodes there were
	nowhere bool // whether the key was
	keeps   []keep
}

func emptyState(vars []api.Var) state {
	s := state{where: map[uint64]int{}}
	for q := range s.sums.queues {
		s.sums.queues[q].ends = [2]int{none, none}
	}
	for i, v := range vars {
		s.sums.vars[i] = v.Init
	}
	s.sums.free = none
	return s
}

func (m *Machine) begin(key uint64) {
	s := &m.state
	s.op++
	at, is := s.where[key]
	if !is {
		at = none
	}
	m.run = run{key: key, x: at, hand: none, before: s.sums, made: len(s.nodes), nowhere: !is}
}

// end answers the run; the machine does not hold it any longer.
func (m *Machine) end() run {
	done := m.run
	m.run = run{}
	return done
}

// undo brings back what was ahead of a run. No key but its own can have come.
func (m *Machine) undo(done run) {
	s := &m.state
	s.sums, s.nodes = done.before, s.nodes[:done.made]
	if done.nowhere {
		delete(s.where, done.key)
	}
	for _, k := range done.keeps {
		s.nodes[k.at] = k.node
		if k.node.queue != none {
			s.where[k.node.key] = k.at
		}
	}
}

// change hands out a node that is about to be changed. Each is kept once in an operation: so none, however long, keeps more than there was.
func (m *Machine) change(at int) *node {
	n := &m.state.nodes[at]
	if n.kept != m.state.op {
		m.run.keeps = append(m.run.keeps, keep{at, *n})
		n.kept = m.state.op
	}
	return n
}

// put lets a node that is at no queue stand at that end of one.
func (m *Machine) put(at, q, end int) {
	list := &m.state.sums.queues[q]
	last := list.ends[end]
	n := m.change(at)
	n.queue = q
	n.beside[end], n.beside[1-end] = none, last
	if last == none {
		list.ends[1-end] = at
	} else {
		m.change(last).beside[end] = at
	}
	list.ends[end] = at
	m.grow(q, 1)
}

// pull takes a node out of its queue.
func (m *Machine) pull(at int) {
	n := m.change(at)
	list := &m.state.sums.queues[n.queue]
	for end, other := range n.beside {
		if other == none {
			list.ends[end] = n.beside[1-end]
		} else {
			m.change(other).beside[1-end] = n.beside[1-end]
		}
	}
	m.grow(n.queue, -1)
	n.queue = none
}

func (m *Machine) grow(q, more int) {
	m.state.sums.queues[q].n += more
	if !m.law.ghost[q] {
		m.state.sums.total += more
	}
}

// fresh is a node of x, with all tags 0, at no queue.
func (m *Machine) fresh() int {
	s := &m.state
	at := s.sums.free
	if at == none {
		at = len(s.nodes)
		s.nodes = append(s.nodes, node{kept: s.op})
	} else {
		s.sums.free = m.change(at).beside[api.Front]
	}
	n := &s.nodes[at]
	n.key, n.tags, n.queue = m.run.key, [api.MaxTags]int{}, none
	s.where[n.key] = at
	m.run.x = at
	return at
}

// free lets the entry of a node that is at no queue be no more.
func (m *Machine) free(at int) {
	n := m.change(at)
	delete(m.state.where, n.key)
	n.beside[api.Front] = m.state.sums.free
	m.state.sums.free = at
	if at == m.run.x {
		m.run.x = none
	}
}

func (m *Machine) length(q int) int { return m.state.sums.queues[q].n }

func (m *Machine) hasRoom(q int) bool {
	return m.length(q) < m.law.caps.Queues[q] && (m.law.ghost[q] || m.state.sums.total < m.law.caps.Size)
}

// place is the queue at which x is.
func (m *Machine) place() int {
	if m.run.x == none {
		return none
	}
	return m.state.nodes[m.run.x].queue
}

func (m *Machine) entries(q int) []api.Entry {
	list := make([]api.Entry, 0, m.length(q))
	for at := m.state.sums.queues[q].ends[api.Front]; at != none; at = m.state.nodes[at].beside[api.Back] {
		n := &m.state.nodes[at]
		tags := make([]int, len(m.law.tags))
		copy(tags, n.tags[:])
		list = append(list, api.Entry{Key: n.key, Tags: tags})
	}
	return list
}
