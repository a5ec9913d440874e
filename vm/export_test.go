package vm

import "winnow/api"

// Few is how many changes a run keeps whatever the state is.
const Few = few

// Watch has each instruction told ahead of it from now on: its place and number, and how many operands and loops there are.
func (m *Machine) Watch(look func(at, op, operands, loops int)) {
	for op, do := range m.deeds() {
		m.table[op] = func(i api.Instr) api.Trap {
			look(m.at-1, op, len(m.operands), len(m.loops))
			return do(i)
		}
	}
}

// Kept is how much a machine keeps of an Access that is done.
func (m *Machine) Kept() int {
	n := cap(m.operands) + cap(m.loops) + cap(m.evicted) + cap(m.journal.changes)
	if m.journal.before != nil {
		n++
	}
	return n
}
