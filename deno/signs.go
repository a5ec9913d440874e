package deno

import (
	"winnow/api"
	"winnow/typed"
)

// item is that of x, or of an end. (A place is one for its row's sake, and never run.)
func (m *Machine) item(row api.Row) deed {
	if row.Kind == api.NX {
		return m.itemX
	}
	return func() (int, api.Trap) { return m.endOf(row.N, row.End) }
}

// leaf is an expression without kids.
func (m *Machine) leaf(row api.Row) deed {
	switch row.Kind {
	case api.NNum:
		return constant(row.N)
	case api.NTrue:
		return constant(1)
	case api.NSize:
		return constant(m.law.caps.Size)
	case api.NCap:
		return constant(m.law.caps.Queues[row.N])
	case api.NLen:
		return func() (int, api.Trap) { return m.length(row.N), api.TNone }
	case api.NTotal:
		return func() (int, api.Trap) { return m.state.sums.total, api.TNone }
	case api.NVarOf:
		return func() (int, api.Trap) { return m.state.sums.vars[row.N], api.TNone }
	case api.NEmpty:
		return func() (int, api.Trap) { return truth(m.length(row.N) == 0), api.TNone }
	case api.NFull:
		return func() (int, api.Trap) { return truth(m.isFull(row.N)), api.TNone }
	case api.NAt:
		return func() (int, api.Trap) { return truth(m.place() == row.N), api.TNone }
	}
	return constant(0)
}

func constant(n int) deed { return func() (int, api.Trap) { return n, api.TNone } }

func truth(is bool) int {
	if is {
		return 1
	}
	return 0
}

func (m *Machine) tagging(tag int, item part) deed {
	return func() (int, api.Trap) {
		at, trap := item.run()
		if trap != api.TNone {
			return 0, trap
		}
		return m.state.nodes[at].tags[tag], api.TNone
	}
}

func one(kind int, of part) deed {
	return func() (int, api.Trap) {
		n, trap := of.run()
		switch {
		case trap != api.TNone:
			return 0, trap
		case kind == api.NNot:
			return 1 - n, api.TNone
		}
		return typed.Clamp(-n), api.TNone
	}
}

// first reckons the second kid only where the first one is not enough.
func first(enough int, a, b part) deed {
	return func() (int, api.Trap) {
		n, trap := a.run()
		if trap != api.TNone || n == enough {
			return n, trap
		}
		return b.run()
	}
}

func two(of func(a, b int) int, a, b part) deed {
	return func() (int, api.Trap) {
		x, trap := a.run()
		if trap != api.TNone {
			return 0, trap
		}
		y, trap := b.run()
		if trap != api.TNone {
			return 0, trap
		}
		return of(x, y), api.TNone
	}
}

// sign is what a sign of two, min or max makes of two numbers.
func sign(kind int) func(a, b int) int {
	switch kind {
	case api.NMin:
		return func(a, b int) int { return min(a, b) }
	case api.NMax:
		return func(a, b int) int { return max(a, b) }
	case api.NMul:
		return func(a, b int) int { return typed.Clamp(a * b) }
	case api.NDiv:
		return typed.Div
	case api.NAdd:
		return func(a, b int) int { return typed.Clamp(a + b) }
	case api.NSub:
		return func(a, b int) int { return typed.Clamp(a - b) }
	}
	return comparison(kind)
}

func comparison(kind int) func(a, b int) int {
	switch kind {
	case api.NEq:
		return func(a, b int) int { return truth(a == b) }
	case api.NNe:
		return func(a, b int) int { return truth(a != b) }
	case api.NLt:
		return func(a, b int) int { return truth(a < b) }
	case api.NLe:
		return func(a, b int) int { return truth(a <= b) }
	case api.NGt:
		return func(a, b int) int { return truth(a > b) }
	}
	return func(a, b int) int { return truth(a >= b) }
}
