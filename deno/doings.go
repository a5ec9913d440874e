package deno

import "winnow/api"

// What the document's table of doings has. A doing that traps may leave a state that may not be: the run is undone then.

func (m *Machine) insert(q, end int) api.Trap {
	if m.run.x != none {
		return api.TWhere
	}
	return m.give(m.fresh(), q, end)
}

func (m *Machine) move(q, end int) api.Trap {
	if m.run.x == none {
		return api.TWhere
	}
	m.pull(m.run.x)
	return m.give(m.run.x, q, end)
}

func (m *Machine) forget() api.Trap {
	if q := m.place(); q == none || !m.isGhost(q) {
		return api.TWhere
	}
	m.pull(m.run.x)
	m.loose(m.run.x)
	return api.TNone
}

// take answers the node that is in the hand then.
func (m *Machine) take(q, end int) (int, api.Trap) {
	at, trap := m.endOf(q, end)
	if trap == api.TNone {
		m.pull(at)
	}
	return at, trap
}

func (m *Machine) give(at, q, end int) api.Trap {
	if !m.hasRoom(q) {
		return api.TFull
	}
	m.put(at, q, end)
	return api.TNone
}

func (m *Machine) tell(at int) {
	m.run.evicted = append(m.run.evicted, m.state.nodes[at].key)
}

func (m *Machine) drop(q, end int) api.Trap {
	at, trap := m.take(q, end)
	if trap == api.TNone {
		m.loose(at)
	}
	return trap
}

func (m *Machine) evict(q, end int) api.Trap {
	at, trap := m.take(q, end)
	if trap == api.TNone {
		m.tell(at)
		m.loose(at)
	}
	return trap
}

func (m *Machine) spill(q, end, to, toEnd int) api.Trap {
	at, trap := m.take(q, end)
	if trap != api.TNone {
		return trap
	}
	m.tell(at)
	return m.give(at, to, toEnd)
}

func (m *Machine) shift(q, end, to, toEnd int) api.Trap {
	at, trap := m.take(q, end)
	if trap != api.TNone {
		return trap
	}
	return m.give(at, to, toEnd)
}

func (m *Machine) mark(at, tag, n int) {
	m.change(at).tags[tag] = min(max(n, 0), m.law.typed.Tags[tag])
}

func (m *Machine) set(i, n int) {
	v := m.law.typed.Vars[i]
	m.state.sums.vars[i] = min(max(n, v.Lo), v.Hi)
}

// itemX is x's node.
func (m *Machine) itemX() (int, api.Trap) {
	if m.run.x == none {
		return none, api.TWhere
	}
	return m.run.x, api.TNone
}

// endOf is the node at an end of a queue.
func (m *Machine) endOf(q, end int) (int, api.Trap) {
	at := m.state.sums.queues[q].ends[end]
	if at == none {
		return none, api.TEmpty
	}
	return at, api.TNone
}
