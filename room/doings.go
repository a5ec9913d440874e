package room

import (
	"slices"

	"winnow/api"
)

// do judges a block or a doing in a view, and tells what it leaves.
func (j *judge) do(v view, at int) view {
	if !v.alive || j.fault.Err != api.OK {
		return v
	}
	row := j.p.Rows[at]
	if row.Kind == api.NBlock {
		return j.block(v, at)
	}
	j.seen[at] = j.seen[at].join(v)
	switch row.Kind {
	case api.NIf:
		return j.choose(v, at)
	case api.NLoop:
		return j.loop(v, at)
	case api.NSet:
		return j.set(v, at)
	case api.NMark:
		j.items(v, at)
		return v
	case api.NCall:
		return j.do(v, j.p.Rules[row.N])
	case api.NPass:
		return v
	}
	return j.cut(j.carry(v, at))
}

func (j *judge) block(v view, at int) view {
	for kid := at + 1; kid < j.ends[at]; kid = j.ends[kid] {
		v = j.do(v, kid)
	}
	return v
}

func (j *judge) choose(v view, at int) view {
	first := j.ends[at+1]
	yes, no := j.ask(v, at+1)
	yes = j.do(yes, first)
	if second := j.ends[first]; second < j.ends[at] {
		no = j.do(no, second)
	}
	return yes.join(no)
}

func (j *judge) set(v view, at int) view {
	j.items(v, at)
	i := firstVar + j.p.Rows[at].N
	most := j.first.spans[i]
	s := j.span(v, at+1)
	v.spans[i] = least([]int{s.Lo, s.Hi}, func(n int) int { return max(most.Lo, min(n, most.Hi)) })
	return v
}

// carry judges what brings entries from queue to queue.
func (j *judge) carry(v view, at int) view {
	row := j.p.Rows[at]
	switch row.Kind {
	case api.NInsert:
		if slices.Contains(v.places[:nowhere], true) {
			return j.refuse(api.ErrWhere, at)
		}
		return j.given(v, row.N, at).at(row.N)
	case api.NMove, api.NForget:
		return j.carryX(v, at)
	}
	return j.carryEnd(v, at)
}

// carryX judges what is done with x's own entry.
func (j *judge) carryX(v view, at int) view {
	row := j.p.Rows[at]
	q, is := v.alone()
	switch {
	case !is, row.Kind == api.NForget && !j.p.Queues[q].Ghost:
		return j.refuse(api.ErrWhere, at)
	case row.Kind == api.NForget:
		return j.taken(v, q).at(nowhere)
	}
	return j.given(j.taken(v, q), row.N, at).at(row.N)
}

// carryEnd judges what is done with the entry at a queue's end.
func (j *judge) carryEnd(v view, at int) view {
	q := j.p.Rows[at].N
	if v.spans[q].Lo < 1 {
		return j.refuse(api.ErrEmpty, at)
	}
	v = j.taken(v, q)
	to := j.goesTo(at)
	if to != nowhere {
		v = j.given(v, to, at)
	}
	return v.mayGo(q, to)
}

// goesTo is where an entry comes that an NShift, an NEvict or an NDrop takes. (An NPlace follows the row whose it is.)
func (j *judge) goesTo(at int) int {
	if j.p.Rows[at].Kids == 0 {
		return nowhere
	}
	return j.p.Rows[at+1].N
}

// taken is the view behind the taking of an entry from a queue.
func (j *judge) taken(v view, q int) view { return j.grown(v, q, -1) }

// given is the view behind the giving of one to it, if it has room for certain.
func (j *judge) given(v view, q, at int) view {
	if v.spans[q].Hi >= j.c.Queues[q] || !j.p.Queues[q].Ghost && v.spans[total].Hi >= j.c.Size {
		return j.refuse(api.ErrFull, at)
	}
	return j.grown(v, q, 1)
}

func (j *judge) grown(v view, q, by int) view {
	v.spans[q].Lo += by
	v.spans[q].Hi += by
	if !j.p.Queues[q].Ghost {
		v.spans[total].Lo += by
		v.spans[total].Hi += by
	}
	return v
}
