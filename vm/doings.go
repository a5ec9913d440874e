package vm

import "winnow/api"

// itemX is the node of x.
func (m *Machine) itemX() (int, api.Trap) {
	if m.place() == none {
		return none, api.TWhere
	}
	return m.x, api.TNone
}

// itemEnd is the node at an end of a queue.
func (m *Machine) itemEnd(q, end int) (int, api.Trap) {
	node, is := m.state.nodes.Peek(q, end)
	if !is {
		return none, api.TEmpty
	}
	return node, api.TNone
}

// held is the node in the hand.
func (m *Machine) held() int {
	node, _ := m.state.nodes.Peek(m.law.hand, api.Front)
	return node
}

// hasRoom tells whether a queue has room, once an entry is out of a list.
func (m *Machine) hasRoom(q, from int) bool {
	length, total := m.length(q), m.total()
	if from == q {
		length--
	}
	if m.law.isResident(from) {
		total--
	}
	return length < m.law.caps.Queues[q] && (m.law.Ghost[q] || total < m.law.caps.Size)
}

// bring lets a node stand at an end of a queue, if that has room.
func (m *Machine) bring(node, q, end int) api.Trap {
	from, _ := m.state.nodes.List(node)
	if !m.hasRoom(q, from) {
		return api.TFull
	}
	m.send(node, q, end)
	return api.TNone
}

func (m *Machine) send(node, list, end int) {
	at := m.state.spot(node)
	m.state.nodes.Move(node, list, end)
	m.journal.note(&m.state, change{kind: moved, node: node, at: at})
}

// lose lets a node's entry be no more.
func (m *Machine) lose(node int) api.Trap {
	at := m.state.spot(node)
	was := m.state.lose(node)
	if node == m.x {
		m.x = none
	}
	m.journal.note(&m.state, change{kind: went, at: at, was: was})
	return api.TNone
}

// announce tells a node's key as evicted.
func (m *Machine) announce(node int) {
	e, _ := m.state.nodes.Get(node)
	m.evicted = append(m.evicted, e.key)
}

func (m *Machine) tagX(i api.Instr) api.Trap {
	node, trap := m.itemX()
	return m.pushTag(node, i.A, trap)
}

func (m *Machine) tagEnd(i api.Instr) api.Trap {
	node, trap := m.itemEnd(i.A, i.B)
	return m.pushTag(node, i.C, trap)
}

func (m *Machine) pushTag(node, tag int, trap api.Trap) api.Trap {
	if trap != api.TNone {
		return trap
	}
	e, _ := m.state.nodes.Get(node)
	return m.push(int(e.tags[tag]))
}

func (m *Machine) markX(i api.Instr) api.Trap {
	node, trap := m.itemX()
	return m.mark(node, i.A, trap)
}

func (m *Machine) markEnd(i api.Instr) api.Trap {
	node, trap := m.itemEnd(i.A, i.B)
	return m.mark(node, i.C, trap)
}

func (m *Machine) mark(node, tag int, trap api.Trap) api.Trap {
	if trap != api.TNone {
		return trap
	}
	was, _ := m.state.nodes.Get(node)
	is := was
	is.tags[tag] = uint8(min(max(m.pop(), 0), m.law.Tags[tag]))
	m.state.nodes.Set(node, is)
	m.journal.note(&m.state, change{kind: marked, node: node, was: was})
	return api.TNone
}

func (m *Machine) set(i api.Instr) api.Trap {
	among := m.law.Vars[i.A]
	m.state.vars[i.A] = min(max(m.pop(), among.Lo), among.Hi)
	return api.TNone
}

func (m *Machine) insert(i api.Instr) api.Trap {
	switch {
	case m.x != none:
		return api.TWhere
	case !m.hasRoom(i.A, m.law.hand):
		return api.TFull
	}
	m.x = m.state.add(i.A, i.B, entry{key: m.key})
	m.journal.note(&m.state, change{kind: came, node: m.x})
	return api.TNone
}

func (m *Machine) move(i api.Instr) api.Trap {
	node, trap := m.itemX()
	if trap != api.TNone {
		return trap
	}
	return m.bring(node, i.A, i.B)
}

func (m *Machine) forget(api.Instr) api.Trap {
	if q := m.place(); q == none || !m.law.Ghost[q] {
		return api.TWhere
	}
	return m.lose(m.x)
}

func (m *Machine) take(i api.Instr) api.Trap {
	node, trap := m.itemEnd(i.A, i.B)
	if trap == api.TNone {
		m.send(node, m.law.hand, api.Front)
	}
	return trap
}

func (m *Machine) give(i api.Instr) api.Trap { return m.bring(m.held(), i.A, i.B) }

func (m *Machine) tell(api.Instr) api.Trap {
	m.announce(m.held())
	return api.TNone
}

func (m *Machine) loose(api.Instr) api.Trap { return m.lose(m.held()) }

// The doings that are made of several do not go through the hand: what is seen of them is the same.

func (m *Machine) shift(i api.Instr) api.Trap {
	node, trap := m.itemEnd(i.A, i.B)
	if trap != api.TNone {
		return trap
	}
	return m.bring(node, i.C, i.D)
}

func (m *Machine) spill(i api.Instr) api.Trap {
	node, trap := m.itemEnd(i.A, i.B)
	if trap != api.TNone {
		return trap
	}
	m.announce(node)
	return m.bring(node, i.C, i.D)
}

func (m *Machine) evict(i api.Instr) api.Trap {
	node, trap := m.itemEnd(i.A, i.B)
	if trap != api.TNone {
		return trap
	}
	m.announce(node)
	return m.lose(node)
}

func (m *Machine) drop(i api.Instr) api.Trap {
	node, trap := m.itemEnd(i.A, i.B)
	if trap != api.TNone {
		return trap
	}
	return m.lose(node)
}
