package rule

import "winnow/api"

// deed is what an act does to a machine: an expression answers its number (a bool 0 or 1), an item its node, a doing 0; or it traps.
type deed func(m *Machine) (int, api.Trap)

// eventDeed is that of a right event; nil, if it has no rows.
func eventDeed(rows []api.Act) deed {
	all, is := eventBranch(rows)
	if !is {
		return nil
	}
	return deedOf(all)
}

func deedOf(b branch) deed {
	var kids []deed
	for _, kid := range b.kids() {
		kids = append(kids, deedOf(kid))
	}
	switch act := b.rows[0]; {
	case act.Kind <= api.RMark:
		return partDeed(act, kids)
	case act.Kind <= api.RDrop:
		return bringing(act)
	case len(kids) == 0:
		return leafDeed(act)
	case act.Kind == api.RTag:
		return tagging(act.A, kids[0])
	case len(kids) == 1:
		return one(act.Kind, kids[0])
	default:
		return twoDeed(act.Kind, kids[0], kids[1])
	}
}

// partDeed is that of a doing with kids.
func partDeed(act api.Act, kids []deed) deed {
	switch act.Kind {
	case api.RBlock:
		return all(kids)
	case api.RIf:
		return choice(kids)
	case api.RLoop:
		return loop(act.A, kids[0], kids[1])
	case api.RSet:
		return setting(act.A, kids[0])
	}
	return marking(act.A, kids[0], kids[1])
}

func all(kids []deed) deed {
	return func(m *Machine) (int, api.Trap) {
		for _, kid := range kids {
			if _, trap := kid(m); trap != api.TNone {
				return 0, trap
			}
		}
		return 0, api.TNone
	}
}

func choice(kids []deed) deed {
	return func(m *Machine) (int, api.Trap) {
		is, trap := kids[0](m)
		switch {
		case trap != api.TNone:
			return 0, trap
		case is == 1:
			return kids[1](m)
		case len(kids) == 3:
			return kids[2](m)
		}
		return 0, api.TNone
	}
}

func loop(rounds int, asked, block deed) deed {
	return func(m *Machine) (int, api.Trap) {
		for range rounds {
			is, trap := asked(m)
			if trap != api.TNone || is == 0 {
				return 0, trap
			}
			if _, trap := block(m); trap != api.TNone {
				return 0, trap
			}
		}
		return 0, api.TNone
	}
}

func setting(i int, to deed) deed {
	return func(m *Machine) (int, api.Trap) {
		n, trap := to(m)
		if trap == api.TNone {
			m.set(i, n)
		}
		return 0, trap
	}
}

// marking reckons its number ahead of its item: the document has it so.
func marking(tag int, item, to deed) deed {
	return func(m *Machine) (int, api.Trap) {
		n, trap := to(m)
		if trap != api.TNone {
			return 0, trap
		}
		at, trap := item(m)
		if trap == api.TNone {
			m.mark(at, tag, n)
		}
		return 0, trap
	}
}

// bringing is that of a doing that brings entries somewhere, or tells them.
func bringing(act api.Act) deed {
	q, end, to, toEnd := act.A, act.B, act.C, act.D
	switch act.Kind {
	case api.RInsert:
		return trapping(func(m *Machine) api.Trap { return m.insert(q, end) })
	case api.RMove:
		return trapping(func(m *Machine) api.Trap { return m.move(q, end) })
	case api.RForget:
		return trapping(func(m *Machine) api.Trap { return m.forget() })
	case api.RTake:
		return trapping(func(m *Machine) api.Trap { return m.take(q, end) })
	case api.RGive:
		return trapping(func(m *Machine) api.Trap { return m.give(q, end) })
	case api.RTell:
		return quiet(func(m *Machine) { m.tell() })
	case api.RLoose:
		return quiet(func(m *Machine) { m.loose() })
	case api.RShift:
		return trapping(func(m *Machine) api.Trap { return m.shift(q, end, to, toEnd) })
	case api.RSpill:
		return trapping(func(m *Machine) api.Trap { return m.spill(q, end, to, toEnd) })
	case api.REvict:
		return trapping(func(m *Machine) api.Trap { return m.evict(q, end) })
	}
	return trapping(func(m *Machine) api.Trap { return m.drop(q, end) })
}

func trapping(do func(m *Machine) api.Trap) deed {
	return func(m *Machine) (int, api.Trap) { return 0, do(m) }
}

func quiet(do func(m *Machine)) deed {
	return func(m *Machine) (int, api.Trap) {
		do(m)
		return 0, api.TNone
	}
}
