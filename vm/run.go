package vm

import "winnow/api"

// run is an Access as it is done. Operands, loops and the hand are as each instruction asks: verify took the program.
type run struct {
	key      uint64
	x        int // the key's node, at a queue or in the hand; or none
	at       int // the place at which it goes on; none, when the event is done
	operands []int
	loops    []int // how many rounds are left, those of the innermost loop last
	evicted  []uint64
	journal  journal
}

func (m *Machine) begin(key uint64) {
	m.used = 0
	m.run = run{
		key:      key,
		x:        m.state.find(key),
		operands: make([]int, 0, m.law.height),
		journal:  journal{vars: m.state.vars},
	}
}

// event is the place at which x's event begins, or none, and whether x is resident.
func (m *Machine) event() (at int, hit bool) {
	if q := m.place(); q != none {
		return m.law.On[q], !m.law.Ghost[q]
	}
	return m.law.Miss, false
}

// from does the instructions from an event's place on, till that is done, or one traps.
func (m *Machine) from(at int) (trap api.Trap) {
	for m.at = at; ; {
		if m.at == none {
			goto done
		}
		i := m.law.Code[m.at]
		m.at++
		m.used++
		if trap = m.table[i.Op](i); trap != api.TNone {
			goto done
		}
	}
done:
	return trap
}

// push tells that there is no trap: so what ends by it does, too.
func (m *Machine) push(n int) api.Trap {
	m.operands = append(m.operands, n)
	return api.TNone
}

func (m *Machine) pushBool(is bool) api.Trap {
	if is {
		return m.push(1)
	}
	return m.push(0)
}

func (m *Machine) pop() int {
	last := len(m.operands) - 1
	n := m.operands[last]
	m.operands = m.operands[:last]
	return n
}

// pair takes two operands; b was the top.
func (m *Machine) pair() (a, b int) {
	b = m.pop()
	return m.pop(), b
}

// place is the queue at which x is, or none.
func (m *Machine) place() int {
	if list, linked := m.state.nodes.List(m.x); linked && list != m.law.hand {
		return list
	}
	return none
}

func (m *Machine) length(q int) int { return m.state.nodes.Len(q) }

func (m *Machine) total() int {
	n := 0
	for _, q := range m.law.residents {
		n += m.length(q)
	}
	return n
}
