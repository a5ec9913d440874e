package code

import "winnow/api"

// tablesFit tells whether a program's queues, vars and tags may be.
func tablesFit(p api.Program) bool {
	if len(p.Ghost) > api.MaxQueues || len(p.Vars) > api.MaxVars || len(p.Tags) > api.MaxTags {
		return false
	}
	for _, v := range p.Vars {
		if v.Lo < -api.MaxNum || v.Lo > v.Init || v.Init > v.Hi || v.Hi > api.MaxNum {
			return false
		}
	}
	for _, most := range p.Tags {
		if most < 1 || most > api.MaxTag {
			return false
		}
	}
	return true
}

// placesFit tells whether the code may be so long, and each event begins in it or nowhere.
func placesFit(p api.Program) bool {
	if len(p.On) != len(p.Ghost) || len(p.Code) > api.MaxCode {
		return false
	}
	for _, at := range p.On {
		if at < -1 || at >= len(p.Code) {
			return false
		}
	}
	return p.Miss >= -1 && p.Miss < len(p.Code)
}

// spansOf tells of each kind which numbers its operands may be in a program.
func spansOf(p api.Program) [kinds]api.Span {
	return [kinds]api.Span{
		noOperand: {Lo: 0, Hi: 0},
		aQueue:    {Lo: 0, Hi: len(p.Ghost) - 1},
		aVar:      {Lo: 0, Hi: len(p.Vars) - 1},
		aTag:      {Lo: 0, Hi: len(p.Tags) - 1},
		anEnd:     {Lo: api.Front, Hi: api.Back},
		aNumber:   {Lo: -api.MaxNum, Hi: api.MaxNum},
		aBool:     {Lo: 0, Hi: 1},
		rounds:    {Lo: 0, Hi: api.MaxLoop},
		aPlace:    {Lo: 0, Hi: len(p.Code) - 1},
	}
}

func checkInstr(i api.Instr, spans [kinds]api.Span) api.Errno {
	if i.Op < 0 || i.Op >= api.ICount {
		return api.ErrOp
	}
	operands := operandsOf(i)
	for at, k := range kindsOf(i.Op) {
		if n := operands[at]; n < spans[k].Lo || n > spans[k].Hi {
			return api.ErrOperand
		}
	}
	return api.OK
}
