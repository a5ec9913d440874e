package rule

import (
	"winnow/api"
	"winnow/typed"
)

// leafDeed is that of an item, or of an expression without kids.
func leafDeed(act api.Act) deed {
	n, end := act.A, act.B
	switch act.Kind {
	case api.RX:
		return func(m *Machine) (int, api.Trap) { return m.itemX() }
	case api.REnd:
		return func(m *Machine) (int, api.Trap) { return m.endOf(n, end) }
	case api.RVar:
		return telling(func(m *Machine) int { return m.state.sums.vars[n] })
	case api.RLen:
		return telling(func(m *Machine) int { return m.length(n) })
	case api.RTotal:
		return telling(func(m *Machine) int { return m.state.sums.total })
	case api.RAt:
		return telling(func(m *Machine) int { return asNumber(m.place() == n) })
	}
	return telling(func(*Machine) int { return n })
}

// telling never traps.
func telling(of func(m *Machine) int) deed {
	return func(m *Machine) (int, api.Trap) { return of(m), api.TNone }
}

func asNumber(is bool) int {
	if is {
		return 1
	}
	return 0
}

func tagging(tag int, item deed) deed {
	return func(m *Machine) (int, api.Trap) {
		at, trap := item(m)
		if trap != api.TNone {
			return 0, trap
		}
		return m.state.nodes[at].tags[tag], api.TNone
	}
}

func one(kind int, of deed) deed {
	return func(m *Machine) (int, api.Trap) {
		n, trap := of(m)
		switch {
		case trap != api.TNone:
			return 0, trap
		case kind == api.RNot:
			return 1 - n, api.TNone
		}
		return typed.Clamp(-n), api.TNone
	}
}

func twoDeed(kind int, a, b deed) deed {
	switch kind {
	case api.RAnd:
		return first(0, a, b)
	case api.ROr:
		return first(1, a, b)
	}
	return both(sign(kind), a, b)
}

// first reckons the second one only where the first one is not enough.
func first(enough int, a, b deed) deed {
	return func(m *Machine) (int, api.Trap) {
		n, trap := a(m)
		if trap != api.TNone || n == enough {
			return n, trap
		}
		return b(m)
	}
}

func both(of func(a, b int) int, a, b deed) deed {
	return func(m *Machine) (int, api.Trap) {
		x, trap := a(m)
		if trap != api.TNone {
			return 0, trap
		}
		y, trap := b(m)
		if trap != api.TNone {
			return 0, trap
		}
		return of(x, y), api.TNone
	}
}

// sign is what a kind with two kids makes of their numbers.
func sign(kind int) func(a, b int) int {
	switch kind {
	case api.RMin:
		return func(a, b int) int { return min(a, b) }
	case api.RMax:
		return func(a, b int) int { return max(a, b) }
	case api.RMul:
		return func(a, b int) int { return typed.Clamp(a * b) }
	case api.RDiv:
		return typed.Div
	case api.RAdd:
		return func(a, b int) int { return typed.Clamp(a + b) }
	case api.RSub:
		return func(a, b int) int { return typed.Clamp(a - b) }
	case api.REq:
		return func(a, b int) int { return asNumber(a == b) }
	case api.RLt:
		return func(a, b int) int { return asNumber(a < b) }
	}
	return func(a, b int) int { return asNumber(a <= b) }
}
