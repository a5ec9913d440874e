package names

import "winnow/api"

// Kinds of things: the four that names mean, and the miss, which has no name but an event.
const (
	nothing = iota
	queue
	variable
	tag
	rule
	miss
)

// thing is one of a kind, by its number.
type thing struct {
	kind, number int
}

// meaning is the thing of a name, and the first row in which that is known.
type meaning struct {
	thing
	from int
}

// declared tells of what kind a thing is that such a row declares.
func declared(kind int) int {
	switch kind {
	case api.NQueue, api.NGhostQueue:
		return queue
	case api.NVar:
		return variable
	case api.NTag:
		return tag
	case api.NRule:
		return rule
	}
	return nothing
}

// named tells of what kind the thing must be that such a row names.
func named(kind int) int {
	switch kind {
	case api.NHit, api.NGhost, api.NInsert, api.NMove, api.NDrop, api.NShift, api.NEvict, api.NPlace, api.NEndOf,
		api.NLen, api.NCap, api.NEmpty, api.NFull, api.NAt:
		return queue
	case api.NSet, api.NVarOf:
		return variable
	case api.NMark, api.NTagOf:
		return tag
	case api.NCall:
		return rule
	}
	return nothing
}

// event tells whose event a row is, once its N is its queue's number.
func event(row api.Row) thing {
	switch row.Kind {
	case api.NHit, api.NGhost:
		return thing{queue, row.N}
	case api.NMiss:
		return thing{miss, 0}
	}
	return thing{}
}

// most tells how many things of a kind there may be.
func most(kind int) int {
	return [...]int{queue: api.MaxQueues, variable: api.MaxVars, tag: api.MaxTags, rule: api.MaxRules}[kind]
}
