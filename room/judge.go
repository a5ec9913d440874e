package room

import (
	"slices"

	"winnow/api"
)

// judge goes through a policy, and keeps what it has come to. (Once there is a fault, nothing more is judged.)
type judge struct {
	p         api.Policy
	t         api.Typed
	c         api.Caps
	ends      []int // the row behind all of each row's own
	residents []int
	rules     []change // what each rule's block may change
	first     view     // of which nothing is known but capacities and ranges; x is at no place
	seen      map[int]view
	fault     api.Fault
}

// isOf tells whether types may be those of a policy.
func isOf(t api.Typed, p api.Policy) bool {
	if len(t.Vars) != len(p.Vars) || len(t.Tags) != len(p.Tags) || len(t.Rounds) != len(p.Rows) {
		return false
	}
	return !slices.ContainsFunc(t.Vars, isNoVar) &&
		!slices.ContainsFunc(t.Tags, func(n int) bool { return n < 1 || n > api.MaxTag }) &&
		!slices.ContainsFunc(t.Rounds, func(n int) bool { return n < 0 || n > api.MaxLoop })
}

func isNoVar(v api.Var) bool {
	return v.Lo < -api.MaxNum || v.Lo > v.Init || v.Init > v.Hi || v.Hi > api.MaxNum
}

func newJudge(p api.Policy, t api.Typed, c api.Caps) *judge {
	j := &judge{p: p, t: t, c: c, ends: ends(p.Rows), seen: map[int]view{}}
	j.first = view{alive: true}
	for q, queue := range p.Queues {
		j.first.spans[q] = api.Span{Lo: 0, Hi: c.Queues[q]}
		if !queue.Ghost {
			j.residents = append(j.residents, q)
		}
	}
	j.first.spans[total] = api.Span{Lo: 0, Hi: c.Size}
	for i, v := range t.Vars {
		j.first.spans[firstVar+i] = api.Span{Lo: v.Lo, Hi: v.Hi}
	}
	// Rules call rules ahead of them alone.
	for _, block := range p.Rules {
		j.rules = append(j.rules, j.changes(block))
	}
	return j
}

// ends goes from the last row on, so that a row's kids have theirs ahead of it.
func ends(rows []api.Row) []int {
	list := make([]int, len(rows))
	for at, row := range slices.Backward(rows) {
		end := at + 1
		for range row.Kids {
			end = list[end]
		}
		list[at] = end
	}
	return list
}

// events judges them in the order in which they stand. (An event's block follows it.)
func (j *judge) events() {
	for at := 1; at < len(j.p.Rows); at = j.ends[at] {
		row := j.p.Rows[at]
		switch row.Kind {
		case api.NHit, api.NGhost:
			j.do(j.cut(j.first.at(row.N)), at+1)
		case api.NMiss:
			j.do(j.cut(j.first.at(nowhere)), at+1)
		}
	}
}

// facts tells all rows that were come to.
func (j *judge) facts() []api.Facts {
	list := make([]api.Facts, len(j.p.Rows))
	for at := range list {
		if v, is := j.seen[at]; is {
			list[at] = v.facts(len(j.p.Queues), len(j.p.Vars))
		}
	}
	return list
}

// refuse keeps the first fault, and leaves nothing that can be so.
func (j *judge) refuse(err api.Errno, at int) view {
	if j.fault.Err == api.OK {
		j.fault = api.Fault{Err: err, At: at}
	}
	return view{}
}

// cut takes out of a view what can't be so, since total is the sum of the residents' lengths, and no queue at which x is is empty.
func (j *judge) cut(v view) view {
	for q := range j.p.Queues {
		if v.spans[q].Hi == 0 {
			v.places[q] = false
		}
	}
	if q, is := v.alone(); is {
		v.spans[q].Lo = max(1, v.spans[q].Lo)
	}
	sum := api.Span{}
	for _, q := range j.residents {
		sum.Lo += v.spans[q].Lo
		sum.Hi += v.spans[q].Hi
	}
	all := Meet(v.spans[total], sum)
	v.spans[total] = all
	for _, q := range j.residents {
		s := v.spans[q]
		v.spans[q] = Meet(s, api.Span{Lo: all.Lo - (sum.Hi - s.Hi), Hi: all.Hi - (sum.Lo - s.Lo)})
	}
	if !v.alive || v.isNothing() {
		return view{}
	}
	return v
}
