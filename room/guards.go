package room

import "winnow/api"

// ask judges a guard in a view, and narrows the view by it, to what is so where it is true and where it is false: both at once, so that no guard in it is asked twice, however many stand in one another.
func (j *judge) ask(v view, at int) (yes, no view) {
	if !v.alive {
		return view{}, view{}
	}
	first := at + 1
	switch j.p.Rows[at].Kind {
	case api.NTrue:
		return v, view{}
	case api.NFalse:
		return view{}, v
	case api.NNot:
		no, yes = j.ask(v, first)
		return yes, no
	case api.NAnd:
		held, failed := j.ask(v, first)
		yes, no = j.ask(held, j.ends[first])
		return yes, failed.join(no)
	case api.NOr:
		held, failed := j.ask(v, first)
		yes, no = j.ask(failed, j.ends[first])
		return held.join(yes), no
	case api.NEmpty, api.NFull, api.NAt:
		return j.askQueue(v, at)
	case api.NEq, api.NNe, api.NLt, api.NLe, api.NGt, api.NGe:
		if isTruth(j.p.Rows[first].Kind) {
			return j.askLike(v, at)
		}
		return j.compare(v, at)
	}
	return v, v
}

// isTruth tells of an expression's kind whether its type is a bool.
func isTruth(kind int) bool {
	switch kind {
	case api.NTrue, api.NFalse, api.NEmpty, api.NFull, api.NAt, api.NNot:
		return true
	}
	return kind >= api.NEq && kind <= api.NOr
}

// askQueue narrows by what a guard says of a queue.
func (j *judge) askQueue(v view, at int) (yes, no view) {
	q := j.p.Rows[at].N
	most := j.c.Queues[q]
	switch j.p.Rows[at].Kind {
	case api.NEmpty:
		return j.cut(v.within(q, only(0))), j.cut(v.within(q, api.Span{Lo: 1, Hi: most}))
	case api.NFull:
		return j.cut(v.within(q, only(most))), j.cut(v.within(q, api.Span{Lo: 0, Hi: most - 1}))
	}
	there, elsewhere := v.at(q), v
	there.alive = v.places[q]
	elsewhere.places[q] = false
	return j.cut(there), j.cut(elsewhere)
}

// within is the view with one of its spans narrowed.
func (v view) within(span int, to api.Span) view {
	v.spans[span] = Meet(v.spans[span], to)
	return v
}

// askLike judges a comparison of two bools, of which nothing is known behind it.
func (j *judge) askLike(v view, at int) (yes, no view) {
	j.ask(v, at+1)
	j.ask(v, j.ends[at+1])
	return j.cut(v), j.cut(v)
}

// kid is one of the two numbers that are compared: its row, and its span ahead of that.
type kid struct {
	at   int
	span api.Span
}

// compare judges a comparison of two numbers, and narrows both.
func (j *judge) compare(v view, at int) (yes, no view) {
	j.items(v, at)
	a := kid{at + 1, j.span(v, at+1)}
	b := kid{j.ends[at+1], j.span(v, j.ends[at+1])}
	switch j.p.Rows[at].Kind {
	case api.NEq:
		return j.narrowed(v, j.like, a, b), j.narrowed(v, j.unlike, a, b)
	case api.NNe:
		return j.narrowed(v, j.unlike, a, b), j.narrowed(v, j.like, a, b)
	case api.NLt:
		return j.narrowed(v, j.below, a, b), j.narrowed(v, j.atMost, b, a)
	case api.NLe:
		return j.narrowed(v, j.atMost, a, b), j.narrowed(v, j.below, b, a)
	case api.NGt:
		return j.narrowed(v, j.below, b, a), j.narrowed(v, j.atMost, a, b)
	}
	return j.narrowed(v, j.atMost, b, a), j.narrowed(v, j.below, a, b)
}

// narrowed is a view narrowed by one of the ways in which two numbers may lie.
func (j *judge) narrowed(v view, way func(v view, a, b kid) view, a, b kid) view {
	return j.cut(way(v, a, b))
}

func (j *judge) like(v view, a, b kid) view {
	both := Meet(a.span, b.span)
	return j.bring(j.bring(v, a, both), b, both)
}

func (j *judge) unlike(v view, a, b kid) view {
	return j.bring(j.bring(v, a, without(a.span, b.span)), b, without(b.span, a.span))
}

func (j *judge) below(v view, a, b kid) view {
	return j.bring(j.bring(v, a, upTo(b.span.Hi-1)), b, from(a.span.Lo+1))
}

func (j *judge) atMost(v view, a, b kid) view {
	return j.bring(j.bring(v, a, upTo(b.span.Hi)), b, from(a.span.Lo))
}

// bring narrows a kid to a span: what the view has of it; of all else is known only whether it can be there.
func (j *judge) bring(v view, a kid, to api.Span) view {
	switch row := j.p.Rows[a.at]; row.Kind {
	case api.NLen:
		return v.within(row.N, to)
	case api.NTotal:
		return v.within(total, to)
	case api.NVarOf:
		return v.within(firstVar+row.N, to)
	}
	if isNone(Meet(j.span(v, a.at), to)) {
		return view{}
	}
	return v
}
