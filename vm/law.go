package vm

import (
	"slices"

	"winnow/api"
	"winnow/code"
	"winnow/verify"
)

// law is what no operation changes: twins share it.
type law struct {
	api.Program
	caps      api.Caps
	residents []int // the queues that are
	nodes     int   // how many there are
	hand      int   // the number of the hand's list: it comes behind the queues'
	height    int   // how many operands there are at most
}

func newLaw(p api.Program, c api.Caps) (*law, api.Errno) {
	heights, fault := verify.Heights(p)
	if fault.Err != api.OK {
		return nil, fault.Err
	}
	nodes, fit := nodesOf(c, p.Ghost)
	if !fit {
		return nil, api.ErrCaps
	}
	l := &law{
		Program: code.Twin(p),
		caps:    api.Caps{Size: c.Size, Queues: slices.Clone(c.Queues)},
		nodes:   nodes,
		hand:    len(p.Ghost),
		height:  slices.Max(append(heights, 0)),
	}
	for q, ghost := range p.Ghost {
		if !ghost {
			l.residents = append(l.residents, q)
		}
	}
	return l, api.OK
}

// nodesOf tells whether capacities fit (W4), and how many entries there are at most then.
func nodesOf(c api.Caps, ghost []bool) (int, bool) {
	if c.Size < 1 || c.Size > api.MaxCap || len(c.Queues) != len(ghost) {
		return 0, false
	}
	residents, ghosts := 0, 0
	for q, n := range c.Queues {
		most, sum := c.Size, &residents
		if ghost[q] {
			most, sum = api.MaxCap, &ghosts
		}
		if n < 1 || n > most {
			return 0, false
		}
		*sum += n
	}
	nodes := min(c.Size, residents) + ghosts
	return nodes, nodes <= api.MaxNodes
}

// isResident is asked of a list: that of the hand is no queue's.
func (l *law) isResident(list int) bool { return list != l.hand && !l.Ghost[list] }
