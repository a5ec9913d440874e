package gen

import "winnow/api"

// How an act's code lies around that of its kids.
const (
	noCode    = iota // an item: the act above reads it
	kidsAlone        // it has none of its own
	kidsFirst        // then the instruction of its name, with its numbers
	itemFirst        // likewise, but that its first kid is an item, which chooses the instruction
	ifCode
	loopCode
	andCode
	orCode
)

// form is a row of the chapter's table.
type form struct {
	lies  int
	op    int // the instruction of its name; behind an item: that for x
	opEnd int // behind an item: that for a queue's end
}

var forms = [api.RCount]form{
	api.RBlock:  {lies: kidsAlone},
	api.RIf:     {lies: ifCode},
	api.RLoop:   {lies: loopCode},
	api.RSet:    {lies: kidsFirst, op: api.ISet},
	api.RMark:   {lies: itemFirst, op: api.IMarkX, opEnd: api.IMarkEnd},
	api.RInsert: {lies: kidsFirst, op: api.IInsert},
	api.RMove:   {lies: kidsFirst, op: api.IMove},
	api.RForget: {lies: kidsFirst, op: api.IForget},
	api.RTake:   {lies: kidsFirst, op: api.ITake},
	api.RGive:   {lies: kidsFirst, op: api.IGive},
	api.RTell:   {lies: kidsFirst, op: api.ITell},
	api.RLoose:  {lies: kidsFirst, op: api.ILoose},
	api.RShift:  {lies: kidsFirst, op: api.IShift},
	api.RSpill:  {lies: kidsFirst, op: api.ISpill},
	api.REvict:  {lies: kidsFirst, op: api.IEvict},
	api.RDrop:   {lies: kidsFirst, op: api.IDrop},
	api.RX:      {lies: noCode},
	api.REnd:    {lies: noCode},
	api.RNum:    {lies: kidsFirst, op: api.INum},
	api.RBool:   {lies: kidsFirst, op: api.IBool},
	api.RVar:    {lies: kidsFirst, op: api.IVar},
	api.RLen:    {lies: kidsFirst, op: api.ILen},
	api.RTotal:  {lies: kidsFirst, op: api.ITotal},
	api.RAt:     {lies: kidsFirst, op: api.IAt},
	api.RTag:    {lies: itemFirst, op: api.ITagX, opEnd: api.ITagEnd},
	api.RMin:    {lies: kidsFirst, op: api.IMin},
	api.RMax:    {lies: kidsFirst, op: api.IMax},
	api.RNeg:    {lies: kidsFirst, op: api.INeg},
	api.RNot:    {lies: kidsFirst, op: api.INot},
	api.RMul:    {lies: kidsFirst, op: api.IMul},
	api.RDiv:    {lies: kidsFirst, op: api.IDiv},
	api.RAdd:    {lies: kidsFirst, op: api.IAdd},
	api.RSub:    {lies: kidsFirst, op: api.ISub},
	api.REq:     {lies: kidsFirst, op: api.IEq},
	api.RLt:     {lies: kidsFirst, op: api.ILt},
	api.RLe:     {lies: kidsFirst, op: api.ILe},
	api.RAnd:    {lies: andCode},
	api.ROr:     {lies: orCode},
}
