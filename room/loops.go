package room

import "winnow/api"

// change is what a block may change, with the calls in it gone into.
type change struct {
	carries int            // the row of the first NInsert, NMove or NForget; 0: there is none
	spans   [allSpans]bool // total's: it may be less
	goes    [allPlaces][allPlaces]bool
}

func (j *judge) loop(v view, at int) view {
	if j.t.Rounds[at] == 0 {
		return v
	}
	while := j.ends[at+1]
	block := j.ends[while]
	c := j.changes(block)
	if c.carries > 0 {
		return j.refuse(api.ErrLoop, c.carries)
	}
	v = j.cut(j.unknown(v, c))
	yes, _ := j.ask(v, while)
	j.do(yes, block)
	return v
}

// unknown is the view behind any number of rounds.
func (j *judge) unknown(v view, c change) view {
	for i, may := range c.spans {
		switch {
		case may && i == total:
			v.spans[i].Lo = 0
		case may:
			v.spans[i] = j.first.spans[i]
		}
	}
	return v.closed(c.goes)
}

// changes goes through all of a row's own.
func (j *judge) changes(at int) change {
	c := change{}
	for i := at; i < j.ends[at]; i++ {
		j.addRow(&c, i)
	}
	return c
}

// addRow puts to a change what one row may change, without its own.
func (j *judge) addRow(c *change, at int) {
	row := j.p.Rows[at]
	switch row.Kind {
	case api.NInsert, api.NMove, api.NForget:
		c.addCarry(at)
	case api.NSet:
		c.spans[firstVar+row.N] = true
	case api.NShift:
		c.addTaking(row.N, j.goesTo(at))
	case api.NEvict:
		c.addTaking(row.N, j.goesTo(at))
		c.spans[total] = true
	case api.NDrop:
		c.addTaking(row.N, nowhere)
	case api.NCall:
		c.addAll(j.rules[row.N])
	}
}

func (c *change) addCarry(at int) {
	if c.carries == 0 {
		c.carries = at
	}
}

// addTaking puts to it that an entry is taken from a queue, and where it comes.
func (c *change) addTaking(q, to int) {
	c.goes[q][to] = true
	if q == to {
		return
	}
	c.spans[q] = true
	if to != nowhere {
		c.spans[to] = true
	}
}

// addAll puts to it what a rule's block may change.
func (c *change) addAll(d change) {
	c.addCarry(d.carries)
	for i, may := range d.spans {
		c.spans[i] = c.spans[i] || may
	}
	for q, goes := range d.goes {
		for to, may := range goes {
			c.goes[q][to] = c.goes[q][to] || may
		}
	}
}
