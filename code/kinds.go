package code

import "winnow/api"

// kind is of what kind an operand is.
type kind int

const (
	noOperand kind = iota
	aQueue
	aVar
	aTag
	anEnd
	aNumber
	aBool
	rounds
	aPlace
	kinds // how many there are
)

// kindsOf tells of what kinds the operands A, B, C, D of an instruction are.
func kindsOf(op int) [4]kind {
	switch op {
	case api.INum:
		return [4]kind{aNumber}
	case api.IBool:
		return [4]kind{aBool}
	case api.IVar, api.ISet:
		return [4]kind{aVar}
	case api.ILen, api.ICap, api.IAt:
		return [4]kind{aQueue}
	case api.ITagX, api.IMarkX:
		return [4]kind{aTag}
	case api.ITagEnd, api.IMarkEnd:
		return [4]kind{aQueue, anEnd, aTag}
	case api.IJump, api.IElse, api.ITurn, api.IQuit, api.IAgain:
		return [4]kind{aPlace}
	case api.ILoop:
		return [4]kind{rounds}
	case api.IInsert, api.IMove, api.ITake, api.IGive, api.IEvict, api.IDrop:
		return [4]kind{aQueue, anEnd}
	case api.IShift, api.ISpill:
		return [4]kind{aQueue, anEnd, aQueue, anEnd}
	}
	return [4]kind{}
}

func operandsOf(i api.Instr) [4]int { return [4]int{i.A, i.B, i.C, i.D} }

// way is how an operand of one kind is read, written and told.
type way struct {
	read  func(*reader) int
	write func(*writer, int)
	tell  func(*lister, int)
}

func ways() [kinds]way {
	return [kinds]way{
		noOperand: {(*reader).nothing, (*writer).nothing, (*lister).nothing},
		aQueue:    {(*reader).number, (*writer).number, (*lister).queue},
		aVar:      {(*reader).number, (*writer).number, (*lister).variable},
		aTag:      {(*reader).number, (*writer).number, (*lister).tag},
		anEnd:     {(*reader).number, (*writer).number, (*lister).end},
		aNumber:   {(*reader).signed, (*writer).signed, (*lister).number},
		aBool:     {(*reader).number, (*writer).number, (*lister).truth},
		rounds:    {(*reader).number, (*writer).number, (*lister).number},
		aPlace:    {(*reader).number, (*writer).number, (*lister).place},
	}
}
