package verify

import "winnow/api"

// kind is the type of an operand.
type kind int

const (
	nothing kind = iota
	number
	truth
	either // whichever, if all are of it
)

// effect is what an instruction does to the operands: all that it takes are of one type, and it gives one at most.
type effect struct {
	takes int
	of    kind
	gives kind
}

// effects has those of the instructions that take or give one.
var effects = [api.ICount]effect{
	api.INum:     {gives: number},
	api.IBool:    {gives: truth},
	api.IVar:     {gives: number},
	api.ILen:     {gives: number},
	api.ICap:     {gives: number},
	api.ISize:    {gives: number},
	api.ITotal:   {gives: number},
	api.IAt:      {gives: truth},
	api.ITagX:    {gives: number},
	api.ITagEnd:  {gives: number},
	api.IMin:     {takes: 2, of: number, gives: number},
	api.IMax:     {takes: 2, of: number, gives: number},
	api.INeg:     {takes: 1, of: number, gives: number},
	api.INot:     {takes: 1, of: truth, gives: truth},
	api.IMul:     {takes: 2, of: number, gives: number},
	api.IDiv:     {takes: 2, of: number, gives: number},
	api.IAdd:     {takes: 2, of: number, gives: number},
	api.ISub:     {takes: 2, of: number, gives: number},
	api.IEq:      {takes: 2, of: either, gives: truth},
	api.ILt:      {takes: 2, of: number, gives: truth},
	api.ILe:      {takes: 2, of: number, gives: truth},
	api.IElse:    {takes: 1, of: truth},
	api.IQuit:    {takes: 1, of: truth},
	api.ISet:     {takes: 1, of: number},
	api.IMarkX:   {takes: 1, of: number},
	api.IMarkEnd: {takes: 1, of: number},
}

// fits tells whether a row has as many operands as an instruction takes, and room for what it gives.
func (o operands) fits(op int) bool {
	e := effects[op]
	if o.height < e.takes || op == api.IEnd && o.height > 0 {
		return false
	}
	return e.gives == nothing || o.height-e.takes < api.MaxStack
}

// suits tells whether what an instruction takes is of the types that it wants.
func (o operands) suits(op int) bool {
	e := effects[op]
	want := e.of
	if want == either {
		want = o.below(0)
	}
	for n := range e.takes {
		if o.below(n) != want {
			return false
		}
	}
	return true
}

// behind tells the row behind an instruction.
func (o operands) behind(op int) operands {
	e := effects[op]
	o = o.without(e.takes)
	if e.gives == nothing {
		return o
	}
	return o.with(e.gives)
}
