package typed

import (
	"slices"

	"winnow/api"
	"winnow/names"
)

// reading is a policy's rows with the part of each, and the number of the row behind all of each one's own. (Trees are as deep as they have rows: nothing here goes down into them by calling itself.)
type reading struct {
	rows   []api.Row
	queues []api.Queue
	parts  []part
	ends   []int
}

// read takes a policy whose types are right.
func read(p api.Policy) (reading, api.Fault) {
	if err := names.Check(p); err != api.OK {
		return reading{}, api.Fault{Err: err}
	}
	r := reading{rows: p.Rows, queues: p.Queues, ends: ends(p.Rows)}
	for _, row := range p.Rows {
		r.parts = append(r.parts, partOf(row))
	}
	return r, r.fault()
}

// readUnder takes one that the capacities fit too.
func readUnder(p api.Policy, c api.Caps) (reading, api.Fault) {
	r, fault := read(p)
	if fault.Err == api.OK {
		fault = fits(p.Queues, c)
	}
	return r, fault
}

// ends goes from the last row on, so that a row's kids have theirs ahead of it.
func ends(rows []api.Row) []int {
	list := make([]int, len(rows))
	for at, row := range slices.Backward(rows) {
		end := at + 1
		for range row.Kids {
			end = list[end]
		}
		list[at] = end
	}
	return list
}

// kids are the numbers of a row's.
func (r reading) kids(at int) []int {
	var list []int
	for kid := at + 1; kid < r.ends[at]; kid = r.ends[kid] {
		list = append(list, kid)
	}
	return list
}

func (r reading) types() []int {
	list := make([]int, len(r.parts))
	for at, x := range r.parts {
		list[at] = x.is()
	}
	return list
}

// fault tells the first one of types, of what is no constant, of queues.
func (r reading) fault() api.Fault {
	asks := r.asks()
	constant := 0 // the rows ahead of this one must be
	for at, x := range r.parts {
		switch {
		case asks[at] != None && asks[at] != x.is():
			return api.Fault{Err: api.ErrType, At: at}
		case at < constant && isChanging(x):
			return api.Fault{Err: api.ErrConst, At: at}
		case r.isOtherKind(at):
			return api.Fault{Err: api.ErrKind, At: at}
		}
		constant = max(constant, r.constantTill(at))
	}
	return api.Fault{}
}

// asks tells of each row the type that is asked for of it.
func (r reading) asks() []int {
	list := make([]int, len(r.parts))
	for at, x := range r.parts {
		for number, kid := range r.kids(at) {
			list[kid] = asked(x, number, r.parts[at+1].is())
		}
	}
	return list
}

// constantTill tells the row behind those that must be constant for a row: they follow it.
func (r reading) constantTill(at int) int {
	switch r.rows[at].Kind {
	case api.NVar, api.NTag, api.NRequire:
		return r.ends[at]
	case api.NLoop:
		return r.ends[at+1]
	}
	return 0
}

func isChanging(x part) bool {
	_, is := x.(changing)
	return is
}

// hasChanging tells whether a row is one that no constant may have, or has one in its own.
func (r reading) hasChanging(at int) bool {
	return slices.ContainsFunc(r.parts[at:r.ends[at]], isChanging)
}

// isOtherKind tells whether a row names a queue of the other kind. (An NPlace follows the row whose it is.)
func (r reading) isOtherKind(at int) bool {
	switch r.rows[at].Kind {
	case api.NHit, api.NMove, api.NEvict:
		return r.isGhost(at)
	case api.NGhost, api.NDrop:
		return !r.isGhost(at)
	case api.NPlace:
		if r.rows[at-1].Kind == api.NEvict {
			return !r.isGhost(at)
		}
		return r.isGhost(at) != r.isGhost(at-1)
	}
	return false
}

func (r reading) isGhost(at int) bool { return r.queues[r.rows[at].N].Ghost }

// values tells what each row comes to, from the last one on, so that a row's kids are told ahead of it. What is no constant is told too, as if nothing were there.
func (r reading) values(c api.Caps) []int {
	list := make([]int, len(r.parts))
	for at, x := range slices.Backward(r.parts) {
		a, b := 0, 0
		if r.rows[at].Kids > 0 {
			a = list[at+1]
		}
		if r.rows[at].Kids > 1 {
			b = list[r.ends[at+1]]
		}
		list[at] = x.comes(c, a, b)
	}
	return list
}
