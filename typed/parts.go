package typed

import "winnow/api"

// part is a row as it is asked here: its type, and what it comes to under capacities that fit, where its first kid comes to a and its second one to b. (A bool comes to 0 or 1, a row of no type and one that no constant may have to 0.)
type part interface {
	is() int
	comes(c api.Caps, a, b int) int
}

type (
	// doing has no type; it asks for types of its first kids.
	doing struct{ asks [3]int }
	// written says itself what it comes to.
	written struct{ typ, n int }
	// capacity is a queue's.
	capacity struct{ queue int }
	// size is that of all resident queues together.
	size struct{}
	// changing is what hangs on the state: no constant has it.
	changing struct{ typ int }
	// reckoned is a number made of numbers.
	reckoned struct{ kind int }
	// compared is a bool made of numbers.
	compared struct{ kind int }
	// joined is a bool made of bools.
	joined struct{ kind int }
	// likened is a bool made of two of one type.
	likened struct{ kind int }
)

func (x doing) is() int    { return None }
func (x written) is() int  { return x.typ }
func (x capacity) is() int { return Num }
func (x size) is() int     { return Num }
func (x changing) is() int { return x.typ }
func (x reckoned) is() int { return Num }
func (x compared) is() int { return Bool }
func (x joined) is() int   { return Bool }
func (x likened) is() int  { return Bool }

func (x doing) comes(c api.Caps, a, b int) int    { return 0 }
func (x written) comes(c api.Caps, a, b int) int  { return x.n }
func (x capacity) comes(c api.Caps, a, b int) int { return c.Queues[x.queue] }
func (x size) comes(c api.Caps, a, b int) int     { return c.Size }
func (x changing) comes(c api.Caps, a, b int) int { return 0 }

// Numbers are at most MaxNum, and those below 0 too: no product of two wraps round ahead of Clamp.
func (x reckoned) comes(c api.Caps, a, b int) int {
	switch x.kind {
	case api.NMin:
		return min(a, b)
	case api.NMax:
		return max(a, b)
	case api.NNeg:
		return Clamp(-a)
	case api.NMul:
		return Clamp(a * b)
	case api.NDiv:
		return Div(a, b)
	case api.NAdd:
		return Clamp(a + b)
	}
	return Clamp(a - b)
}

func (x compared) comes(c api.Caps, a, b int) int {
	switch x.kind {
	case api.NLt:
		return one(a < b)
	case api.NLe:
		return one(a <= b)
	case api.NGt:
		return one(a > b)
	}
	return one(a >= b)
}

func (x joined) comes(c api.Caps, a, b int) int {
	switch x.kind {
	case api.NNot:
		return 1 - a
	case api.NAnd:
		return a & b
	}
	return a | b
}

func (x likened) comes(c api.Caps, a, b int) int { return one((a == b) == (x.kind == api.NEq)) }

// one is a bool as a number.
func one(is bool) int {
	if is {
		return 1
	}
	return 0
}

// partOf tells a row's part, once its N is what its name means.
func partOf(row api.Row) part {
	switch row.Kind {
	case api.NNum:
		return written{Num, row.N}
	case api.NTrue:
		return written{Bool, 1}
	case api.NFalse:
		return written{Bool, 0}
	case api.NCap:
		return capacity{row.N}
	case api.NSize:
		return size{}
	case api.NVarOf, api.NLen, api.NTotal, api.NTagOf:
		return changing{Num}
	case api.NEmpty, api.NFull, api.NAt:
		return changing{Bool}
	case api.NMin, api.NMax, api.NNeg, api.NMul, api.NDiv, api.NAdd, api.NSub:
		return reckoned{row.Kind}
	case api.NLt, api.NLe, api.NGt, api.NGe:
		return compared{row.Kind}
	case api.NNot, api.NAnd, api.NOr:
		return joined{row.Kind}
	case api.NEq, api.NNe:
		return likened{row.Kind}
	}
	return doing{asking(row.Kind)}
}

// asking tells the types that a row without a type asks for of its kids; None: it doesn't.
func asking(kind int) [3]int {
	switch kind {
	case api.NVar:
		return [3]int{Num, Num, Num}
	case api.NTag, api.NSet:
		return [3]int{Num}
	case api.NMark:
		return [3]int{None, Num}
	case api.NLoop:
		return [3]int{Num, Bool}
	case api.NRequire, api.NIf:
		return [3]int{Bool}
	}
	return [3]int{}
}

// asked tells the type that a row asks for of its kid of that number, where its first kid has the type first; None: of none.
func asked(whole part, kid, first int) int {
	switch x := whole.(type) {
	case doing:
		if kid < len(x.asks) {
			return x.asks[kid]
		}
	case reckoned, compared:
		return Num
	case joined:
		return Bool
	case likened:
		if kid == 1 {
			return first
		}
	}
	return None
}
