package vm

import "winnow/api"

// deed does what an instruction says. The run goes on at the next place, unless it says otherwise.
type deed func(i api.Instr) api.Trap

// deeds has for each instruction what this machine does.
func (m *Machine) deeds() [api.ICount]deed {
	return [api.ICount]deed{
		api.IEnd:     m.end,
		api.INum:     m.number,
		api.IBool:    m.number,
		api.IVar:     m.variable,
		api.ILen:     m.lengthOf,
		api.ICap:     m.capacity,
		api.ISize:    m.size,
		api.ITotal:   m.totalOf,
		api.IAt:      m.isAt,
		api.ITagX:    m.tagX,
		api.ITagEnd:  m.tagEnd,
		api.IMin:     m.least,
		api.IMax:     m.greatest,
		api.INeg:     m.negate,
		api.INot:     m.not,
		api.IMul:     m.multiply,
		api.IDiv:     m.divide,
		api.IAdd:     m.add,
		api.ISub:     m.subtract,
		api.IEq:      m.equal,
		api.ILt:      m.less,
		api.ILe:      m.atMost,
		api.IJump:    m.jump,
		api.IElse:    m.otherwise,
		api.ILoop:    m.loop,
		api.ITurn:    m.turn,
		api.IQuit:    m.quit,
		api.IAgain:   m.jump,
		api.ISet:     m.set,
		api.IMarkX:   m.markX,
		api.IMarkEnd: m.markEnd,
		api.IInsert:  m.insert,
		api.IMove:    m.move,
		api.IForget:  m.forget,
		api.ITake:    m.take,
		api.IGive:    m.give,
		api.ITell:    m.tell,
		api.ILoose:   m.loose,
		api.IShift:   m.shift,
		api.ISpill:   m.spill,
		api.IEvict:   m.evict,
		api.IDrop:    m.drop,
	}
}

func (m *Machine) end(api.Instr) api.Trap {
	m.at = none
	return api.TNone
}

func (m *Machine) jump(i api.Instr) api.Trap {
	m.at = i.A
	return api.TNone
}

func (m *Machine) otherwise(i api.Instr) api.Trap {
	if m.pop() == 0 {
		m.at = i.A
	}
	return api.TNone
}

func (m *Machine) loop(i api.Instr) api.Trap {
	m.loops = append(m.loops, i.A)
	return api.TNone
}

func (m *Machine) turn(i api.Instr) api.Trap {
	left := &m.loops[len(m.loops)-1]
	if *left == 0 {
		return m.leave(i)
	}
	*left--
	return api.TNone
}

func (m *Machine) quit(i api.Instr) api.Trap {
	if m.pop() == 0 {
		return m.leave(i)
	}
	return api.TNone
}

// leave closes the innermost loop.
func (m *Machine) leave(i api.Instr) api.Trap {
	m.loops = m.loops[:len(m.loops)-1]
	return m.jump(i)
}
