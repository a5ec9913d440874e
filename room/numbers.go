package room

import "winnow/api"

// items judges those among a row's own, from the left. (There is nothing else to judge, where no guard stands among them.)
func (j *judge) items(v view, at int) {
	for i := at; i < j.ends[at]; i++ {
		row := j.p.Rows[i]
		switch {
		case row.Kind == api.NEndOf && v.spans[row.N].Lo < 1:
			j.refuse(api.ErrEmpty, i)
		case row.Kind == api.NX && v.places[nowhere]:
			j.refuse(api.ErrWhere, i)
		}
	}
}

// span tells what numbers an expression may come to in a view.
func (j *judge) span(v view, at int) api.Span {
	row := j.p.Rows[at]
	switch row.Kind {
	case api.NNum:
		return only(row.N)
	case api.NSize:
		return only(j.c.Size)
	case api.NCap:
		return only(j.c.Queues[row.N])
	case api.NLen:
		return v.spans[row.N]
	case api.NTotal:
		return v.spans[total]
	case api.NVarOf:
		return v.spans[firstVar+row.N]
	case api.NTagOf:
		return api.Span{Lo: 0, Hi: j.t.Tags[row.N]}
	case api.NNeg:
		return Neg(j.span(v, at+1))
	}
	of := ofTwo(row.Kind)
	if of == nil {
		return none()
	}
	return of(j.span(v, at+1), j.span(v, j.ends[at+1]))
}

// ofTwo tells what a sign makes of two spans.
func ofTwo(kind int) func(a, b api.Span) api.Span {
	switch kind {
	case api.NMin:
		return Min
	case api.NMax:
		return Max
	case api.NMul:
		return Mul
	case api.NDiv:
		return Div
	case api.NAdd:
		return Add
	case api.NSub:
		return Sub
	}
	return nil
}
