package cost

import (
	"slices"

	"winnow/api"
)

// reading is a policy's rows, where its rules' blocks are, and the rounds of its loops.
type reading struct {
	rows   []api.Row
	rules  []int
	rounds []int
}

// events tells their costs, or the first one that costs too much, in the order in which they stand. (An event's block follows it.)
func (r *reading) events(queues int) (api.Costs, api.Fault) {
	costs := api.Costs{On: make([]int, queues)}
	for at, row := range r.rows {
		if row.Kind != api.NHit && row.Kind != api.NGhost && row.Kind != api.NMiss {
			continue
		}
		steps, _ := r.bound(at + 1)
		if steps > api.MaxCost {
			return api.Costs{}, api.Fault{Err: api.ErrCost, At: at}
		}
		if row.Kind == api.NMiss {
			costs.Miss = steps
		} else {
			costs.On[row.N] = steps
		}
	}
	return costs, api.Fault{}
}

// bound tells how many steps a row takes at most, and the row behind all of its own, so that nobody has to look for it.
func (r *reading) bound(at int) (steps, behind int) {
	kids := make([]int, r.rows[at].Kids)
	behind = at + 1
	for i := range kids {
		kids[i], behind = r.bound(behind)
	}
	return r.over(at, kids...), behind
}

// over tells the bound of a row by those of its kids. A rule's block is gone through at each of its calls: names bounds how many rows these are in all.
func (r *reading) over(at int, kids ...int) int {
	switch row := r.rows[at]; row.Kind {
	case api.NIf:
		return Sum(1, kids[0], slices.Max(kids[1:]))
	case api.NLoop:
		return Sum(1, Times(r.rounds[at], Sum(kids[1:]...)))
	case api.NCall:
		block, _ := r.bound(r.rules[row.N])
		return Sum(1, block)
	case api.NPlace:
		return 0
	}
	return Sum(1, Sum(kids...))
}
