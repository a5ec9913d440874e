package vm

import "winnow/api"

// number is that of INum; and a bool is 0 or 1.
func (m *Machine) number(i api.Instr) api.Trap { return m.push(i.A) }

func (m *Machine) variable(i api.Instr) api.Trap { return m.push(m.state.vars[i.A]) }

func (m *Machine) lengthOf(i api.Instr) api.Trap { return m.push(m.length(i.A)) }

func (m *Machine) capacity(i api.Instr) api.Trap { return m.push(m.law.caps.Queues[i.A]) }

func (m *Machine) size(api.Instr) api.Trap { return m.push(m.law.caps.Size) }

func (m *Machine) totalOf(api.Instr) api.Trap { return m.push(m.total()) }

func (m *Machine) isAt(i api.Instr) api.Trap { return m.pushBool(m.place() == i.A) }

func (m *Machine) least(api.Instr) api.Trap {
	a, b := m.pair()
	return m.push(min(a, b))
}

func (m *Machine) greatest(api.Instr) api.Trap {
	a, b := m.pair()
	return m.push(max(a, b))
}

func (m *Machine) negate(api.Instr) api.Trap { return m.push(-m.pop()) }

func (m *Machine) not(api.Instr) api.Trap { return m.push(1 - m.pop()) }

func (m *Machine) multiply(api.Instr) api.Trap {
	a, b := m.pair()
	return m.push(clamp(a * b))
}

func (m *Machine) divide(api.Instr) api.Trap { return m.push(floor(m.pair())) }

func (m *Machine) add(api.Instr) api.Trap {
	a, b := m.pair()
	return m.push(clamp(a + b))
}

func (m *Machine) subtract(api.Instr) api.Trap {
	a, b := m.pair()
	return m.push(clamp(a - b))
}

func (m *Machine) equal(api.Instr) api.Trap {
	a, b := m.pair()
	return m.pushBool(a == b)
}

func (m *Machine) less(api.Instr) api.Trap {
	a, b := m.pair()
	return m.pushBool(a < b)
}

func (m *Machine) atMost(api.Instr) api.Trap {
	a, b := m.pair()
	return m.pushBool(a <= b)
}

func clamp(n int) int { return min(max(n, -api.MaxNum), api.MaxNum) }

// floor divides; by 0 it is 0. (No number of the language comes to one that is none.)
func floor(a, b int) int {
	if b == 0 {
		return 0
	}
	n := a / b
	if n*b != a && (a < 0) != (b < 0) {
		n--
	}
	return n
}
