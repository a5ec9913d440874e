package deno

import "winnow/api"

// part is a row in a run. What it does is asked by run, each time anew: an expression answers its number (a bool 0 or 1), an item its node, all else 0; or it traps.
type part interface {
	run() (int, api.Trap)
}

// deed is what a row does once it has begun: a closure over the machine.
type deed func() (int, api.Trap)

// doing is a row that a Trace tells.
type doing struct {
	m   *Machine
	row int
	do  deed
}

func (d doing) run() (int, api.Trap) {
	d.m.steps++
	d.m.point(d.row)
	return d.do()
}

// quiet is a row that no Trace tells: a block, an expression, an item.
type quiet struct {
	m  *Machine
	do deed
}

func (q quiet) run() (int, api.Trap) {
	q.m.steps++
	return q.do()
}

func (m *Machine) point(row int) {
	if !m.run.traced {
		return
	}
	m.run.points = append(m.run.points, api.Point{Row: row, Total: m.state.sums.total, Place: m.place(), Lens: m.lengths(), Vars: m.vars()})
}

// reader makes parts of rows. Rules call rules ahead of them alone: so a rule's part is there when a call of it is made.
type reader struct {
	m     *Machine
	rows  []api.Row
	rules []part
}

func (m *Machine) learn() {
	p := m.law.policy
	r := &reader{m: m, rows: p.Rows}
	for _, block := range p.Rules {
		r.rules = append(r.rules, r.block(block))
	}
	m.on = make([]part, len(p.On))
	for q, block := range p.On {
		m.on[q] = r.block(block)
	}
	m.miss = r.block(p.Miss)
}

// block is that of a row, or none. (Row 0 is the policy's, and never a block.)
func (r *reader) block(at int) part {
	if at <= 0 {
		return nil
	}
	made, _ := r.part(at)
	return made
}

// part answers the row behind all of this row's own, too, so that nobody has to look for it.
func (r *reader) part(at int) (made part, behind int) {
	row := r.rows[at]
	kids := make([]part, row.Kids)
	behind = at + 1
	for i := range kids {
		kids[i], behind = r.part(behind)
	}
	if row.Kind >= api.NIf && row.Kind <= api.NPass {
		return doing{r.m, at, r.doing(at, kids)}, behind
	}
	return quiet{r.m, r.quiet(row, kids)}, behind
}

func (r *reader) doing(at int, kids []part) deed {
	m, row := r.m, r.rows[at]
	switch row.Kind {
	case api.NIf:
		return choice(kids)
	case api.NLoop:
		return loop(m.law.typed.Rounds[at], kids[1], kids[2])
	case api.NSet:
		return m.setting(row.N, kids[0])
	case api.NMark:
		return m.marking(row.N, kids[0], kids[1])
	case api.NCall:
		return r.rules[row.N].run
	case api.NShift, api.NEvict:
		return m.taking(r.rows[at : at+1+row.Kids])
	}
	return m.bringing(row)
}

func (r *reader) quiet(row api.Row, kids []part) deed {
	switch {
	case row.Kind == api.NBlock:
		return all(kids)
	case row.Kind <= api.NEndOf:
		return r.m.item(row)
	case len(kids) == 0:
		return r.m.leaf(row)
	case row.Kind == api.NTagOf:
		return r.m.tagging(row.N, kids[0])
	case len(kids) == 1:
		return one(row.Kind, kids[0])
	case row.Kind == api.NAnd:
		return first(0, kids[0], kids[1])
	case row.Kind == api.NOr:
		return first(1, kids[0], kids[1])
	}
	return two(sign(row.Kind), kids[0], kids[1])
}

func all(kids []part) deed {
	return func() (int, api.Trap) {
		for _, kid := range kids {
			if _, trap := kid.run(); trap != api.TNone {
				return 0, trap
			}
		}
		return 0, api.TNone
	}
}

func choice(kids []part) deed {
	return func() (int, api.Trap) {
		is, trap := kids[0].run()
		switch {
		case trap != api.TNone:
			return 0, trap
		case is == 1:
			return kids[1].run()
		case len(kids) == 3:
			return kids[2].run()
		}
		return 0, api.TNone
	}
}

func loop(rounds int, asked, block part) deed {
	return func() (int, api.Trap) {
		for range rounds {
			is, trap := asked.run()
			if trap != api.TNone || is == 0 {
				return 0, trap
			}
			if _, trap := block.run(); trap != api.TNone {
				return 0, trap
			}
		}
		return 0, api.TNone
	}
}

func (m *Machine) setting(i int, to part) deed {
	return func() (int, api.Trap) {
		n, trap := to.run()
		if trap == api.TNone {
			m.set(i, n)
		}
		return 0, trap
	}
}

// marking reckons its number ahead of its item: the document has it so.
func (m *Machine) marking(tag int, item, to part) deed {
	return func() (int, api.Trap) {
		n, trap := to.run()
		if trap != api.TNone {
			return 0, trap
		}
		at, trap := item.run()
		if trap == api.TNone {
			m.mark(at, tag, n)
		}
		return 0, trap
	}
}

// taking is that of a shift or an evict, and of its place, if it has one.
func (m *Machine) taking(rows []api.Row) deed {
	from := rows[0]
	if len(rows) == 1 {
		return func() (int, api.Trap) { return 0, m.evict(from.N, from.End) }
	}
	to := rows[1]
	if from.Kind == api.NEvict {
		return func() (int, api.Trap) { return 0, m.spill(from.N, from.End, to.N, to.End) }
	}
	return func() (int, api.Trap) { return 0, m.shift(from.N, from.End, to.N, to.End) }
}

func (m *Machine) bringing(row api.Row) deed {
	switch row.Kind {
	case api.NInsert:
		return func() (int, api.Trap) { return 0, m.insert(row.N, row.End) }
	case api.NMove:
		return func() (int, api.Trap) { return 0, m.move(row.N, row.End) }
	case api.NForget:
		return func() (int, api.Trap) { return 0, m.forget() }
	case api.NDrop:
		return func() (int, api.Trap) { return 0, m.drop(row.N, row.End) }
	}
	return func() (int, api.Trap) { return 0, api.TNone }
}
