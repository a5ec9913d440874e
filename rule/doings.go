package rule

import "winnow/api"

// What the document's table of doings has. A doing that traps may leave a state that may not be: the run is undone then.

func (m *Machine) insert(q, end int) api.Trap {
	if m.run.x != none {
		return api.TWhere
	}
	m.run.hand = m.fresh()
	return m.give(q, end)
}

func (m *Machine) move(q, end int) api.Trap {
	if m.run.x == none {
		return api.TWhere
	}
	m.pull(m.run.x)
	m.run.hand = m.run.x
	return m.give(q, end)
}

func (m *Machine) forget() api.Trap {
	if q := m.place(); q == none || !m.law.ghost[q] {
		return api.TWhere
	}
	m.pull(m.run.x)
	m.free(m.run.x)
	return api.TNone
}

func (m *Machine) take(q, end int) api.Trap {
	at, trap := m.endOf(q, end)
	if trap == api.TNone {
		m.pull(at)
		m.run.hand = at
	}
	return trap
}

func (m *Machine) give(q, end int) api.Trap {
	if !m.hasRoom(q) {
		return api.TFull
	}
	m.put(m.run.hand, q, end)
	m.run.hand = none
	return api.TNone
}

func (m *Machine) tell() {
	m.run.evicted = append(m.run.evicted, m.state.nodes[m.run.hand].key)
}

func (m *Machine) loose() {
	m.free(m.run.hand)
	m.run.hand = none
}

func (m *Machine) shift(q, end, to, toEnd int) api.Trap {
	if trap := m.take(q, end); trap != api.TNone {
		return trap
	}
	return m.give(to, toEnd)
}

func (m *Machine) spill(q, end, to, toEnd int) api.Trap {
	if trap := m.take(q, end); trap != api.TNone {
		return trap
	}
	m.tell()
	return m.give(to, toEnd)
}

func (m *Machine) evict(q, end int) api.Trap {
	trap := m.take(q, end)
	if trap == api.TNone {
		m.tell()
		m.loose()
	}
	return trap
}

func (m *Machine) drop(q, end int) api.Trap {
	trap := m.take(q, end)
	if trap == api.TNone {
		m.loose()
	}
	return trap
}

func (m *Machine) mark(at, tag, n int) {
	m.change(at).tags[tag] = min(max(n, 0), m.law.tags[tag])
}

func (m *Machine) set(i, n int) {
	v := m.law.vars[i]
	m.state.sums.vars[i] = min(max(n, v.Lo), v.Hi)
}

// itemX is x's node.
func (m *Machine) itemX() (int, api.Trap) {
	if m.run.x == none {
		return none, api.TWhere
	}
	return m.run.x, api.TNone
}

// endOf is the node at an end of a queue.
func (m *Machine) endOf(q, end int) (int, api.Trap) {
	at := m.state.sums.queues[q].ends[end]
	if at == none {
		return none, api.TEmpty
	}
	return at, api.TNone
}
