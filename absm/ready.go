package absm

import "winnow/api"

// stepsOf makes the code of a program ready.
func stepsOf(p api.Program, c api.Caps) []step {
	steps := make([]step, len(p.Code))
	for at, i := range p.Code {
		switch {
		case i.Op >= api.INum && i.Op <= api.ITagEnd:
			steps[at] = telling(i, c)
		case i.Op >= api.IMin && i.Op <= api.ILe:
			steps[at] = sign(i.Op)
		case i.Op <= api.IAgain:
			steps[at] = going(i)
		case i.Op <= api.IMarkEnd:
			steps[at] = changing(i, p)
		default:
			steps[at] = bringing(i)
		}
	}
	return steps
}

// telling is of those that give an operand, and take none.
func telling(i api.Instr, c api.Caps) step {
	switch i.Op {
	case api.IVar:
		return variable{i.A}
	case api.ILen:
		return length{i.A}
	case api.ICap:
		return number{c.Queues[i.A]}
	case api.ISize:
		return number{c.Size}
	case api.ITotal:
		return total{}
	case api.IAt:
		return isAt{i.A}
	case api.ITagX:
		return tagOf{itemX{}, i.A}
	case api.ITagEnd:
		return tagOf{endOf{i.A, i.B}, i.C}
	}
	return number{i.A}
}

// sign is of those that reckon with operands.
func sign(op int) step {
	switch op {
	case api.IMin:
		return two{func(a, b int) int { return min(a, b) }}
	case api.IMax:
		return two{func(a, b int) int { return max(a, b) }}
	case api.INeg:
		return one{func(a int) int { return -a }}
	case api.INot:
		return one{func(a int) int { return 1 - a }}
	case api.IMul:
		return two{func(a, b int) int { return clamp(a * b) }}
	case api.IDiv:
		return two{div}
	case api.IAdd:
		return two{func(a, b int) int { return clamp(a + b) }}
	case api.ISub:
		return two{func(a, b int) int { return clamp(a - b) }}
	case api.IEq:
		return two{func(a, b int) int { return asNumber(a == b) }}
	case api.ILt:
		return two{func(a, b int) int { return asNumber(a < b) }}
	}
	return two{func(a, b int) int { return asNumber(a <= b) }}
}

func clamp(n int) int { return min(max(n, -api.MaxNum), api.MaxNum) }

// div is to the floor; by 0 it is 0. (No number of the language comes to one that is none.)
func div(a, b int) int {
	if b == 0 {
		return 0
	}
	n := a / b
	if n*b != a && (a < 0) != (b < 0) {
		n--
	}
	return n
}

// going is of those that say where it goes on.
func going(i api.Instr) step {
	switch i.Op {
	case api.IJump, api.IAgain:
		return jump{i.A}
	case api.IElse:
		return otherwise{i.A}
	case api.ILoop:
		return loop{i.A}
	case api.ITurn:
		return turn{i.A}
	case api.IQuit:
		return quit{i.A}
	}
	return ending{}
}

// changing is of those that change a var or a tag.
func changing(i api.Instr, p api.Program) step {
	switch i.Op {
	case api.ISet:
		return set{i.A, p.Vars[i.A]}
	case api.IMarkX:
		return mark{itemX{}, i.A, p.Tags[i.A]}
	}
	return mark{endOf{i.A, i.B}, i.C, p.Tags[i.C]}
}

// bringing is of those that bring entries somewhere, or tell them.
func bringing(i api.Instr) step {
	first, second := endOf{i.A, i.B}, endOf{i.C, i.D}
	switch i.Op {
	case api.IInsert:
		return insert{first}
	case api.IMove:
		return move{first}
	case api.IForget:
		return forget{}
	case api.ITake:
		return take{first}
	case api.IGive:
		return give{first}
	case api.ITell:
		return tell{}
	case api.ILoose:
		return loose{}
	case api.IShift:
		return inTurn{take{first}, give{second}}
	case api.ISpill:
		return inTurn{take{first}, tell{}, give{second}}
	case api.IEvict:
		return inTurn{take{first}, tell{}, loose{}}
	}
	return inTurn{take{first}, loose{}}
}
