package rule

import "winnow/api"

// mostRows is how many all events together may have.
const mostRows = 8 * api.MaxLaid

func hasRightLists(p api.Plan) bool {
	if len(p.Ghost) > api.MaxQueues || len(p.Vars) > api.MaxVars || len(p.Tags) > api.MaxTags || len(p.On) != len(p.Ghost) {
		return false
	}
	return areRightVars(p.Vars) && areRightTags(p.Tags)
}

func areRightVars(vars []api.Var) bool {
	for _, v := range vars {
		if v.Lo < -api.MaxNum || v.Init < v.Lo || v.Hi < v.Init || api.MaxNum < v.Hi {
			return false
		}
	}
	return true
}

func areRightTags(tags []int) bool {
	for _, most := range tags {
		if most < 1 || most > api.MaxTag {
			return false
		}
	}
	return true
}

func hasRightEvents(p api.Plan) bool {
	n := len(p.Miss)
	for _, rows := range p.On {
		n += len(rows)
	}
	if n > mostRows {
		return false
	}
	c := newChecker(p)
	for _, rows := range p.On {
		if !c.isEvent(rows) {
			return false
		}
	}
	return c.isEvent(p.Miss)
}

// checker looks at the rows of a plan's events.
type checker struct {
	ghost []bool
	forms [api.RCount]form
}

func (c *checker) isEvent(rows []api.Act) bool {
	if len(rows) == 0 {
		return true
	}
	all, is := eventBranch(rows)
	if !is {
		return false
	}
	found, _ := c.look(all)
	return found&blockRow != 0
}

// look tells what a row is, and how many operands it wants. It is 0, if the row or one of its own is not right.
func (c *checker) look(b branch) (is, wants int) {
	act := b.rows[0]
	if act.Kind < api.RBlock || act.Kind >= api.RCount || !c.forms[act.Kind].has(act) {
		return 0, 0
	}
	if act.Kind == api.RBlock {
		return c.lookBlock(b.kids()), 0
	}
	return c.lookKids(act.Kind, b.kids())
}

func (c *checker) lookKids(kind int, kids []branch) (is, wants int) {
	f := c.forms[kind]
	if len(kids) < f.least || len(kids) > len(f.kids) {
		return 0, 0
	}
	wants, first := 1, 0
	for i, kid := range kids {
		found, n := c.look(kid)
		if found&f.kids[i] == 0 {
			return 0, 0
		}
		if i == 0 {
			first = found
		} else if kind == api.REq && found != first {
			return 0, 0
		}
		wants = max(wants, n+f.holds*i)
	}
	if f.is&(numberRow|truthRow) != 0 && wants > api.MaxStack {
		return 0, 0
	}
	return f.is, wants
}

func (c *checker) lookBlock(kids []branch) int {
	acts := make([]api.Act, len(kids))
	for i, kid := range kids {
		if found, _ := c.look(kid); found&doingRow == 0 {
			return 0
		}
		acts[i] = kid.rows[0]
	}
	for len(acts) > 0 {
		n := c.together(acts)
		if n == 0 {
			return 0
		}
		acts = acts[n:]
	}
	return c.forms[api.RBlock].is
}

// together is how many of the acts ahead belong together: an RTake and what empties the hand, or one that leaves the hand alone. 0: the first may not stand there.
func (c *checker) together(acts []api.Act) int {
	switch acts[0].Kind {
	case api.RTell, api.RGive, api.RLoose:
		return 0
	case api.RTake:
		return c.handful(acts)
	}
	return 1
}

func (c *checker) handful(acts []api.Act) int {
	ghost, last := c.ghost[acts[0].A], 1
	told := len(acts) > 1 && acts[1].Kind == api.RTell
	if told {
		last = 2
	}
	if last >= len(acts) || told && ghost {
		return 0
	}
	switch end := acts[last]; {
	case end.Kind == api.RLoose && (told || ghost):
		return last + 1
	case end.Kind == api.RGive && c.ghost[end.A] == (told || ghost):
		// A resident key that was told is none any more.
		return last + 1
	}
	return 0
}
