package verify

import "winnow/api"

// hand is what the hand holds.
type hand int

const (
	empty hand = iota
	ghost      // an entry out of a ghost queue
	held       // out of a resident queue, and not told
	told       // out of a resident queue, and told
)

// noLoop stands for the innermost loop where none is open.
const noLoop = -1

// standing is what is known at a place, whichever way it was come to; the zero one is none.
type standing struct {
	operands
	known bool
	hand  hand
	turn  int // the innermost loop's ITurn. A place has one standing, so those around it are told by the standing of that ITurn.
}

func fresh() standing { return standing{known: true, turn: noLoop} }

func (s standing) same(other standing) bool {
	return s.hand == other.hand && s.turn == other.turn && s.alike(other.operands)
}

// wordBits is how many operands' types one word holds.
const wordBits = 64

// operands are the types of a row of operands.
type operands struct {
	height int
	bools  [api.MaxStack / wordBits]uint64 // a bit for each: 1 of a bool. Those above the height are 0, so that like rows are like arrays.
}

func (o operands) alike(other operands) bool {
	return o.height == other.height && o.bools == other.bools
}

// below tells the type of the operand that so many lie on.
func (o operands) below(n int) kind {
	at := o.height - 1 - n
	if o.bools[at/wordBits]>>(at%wordBits)&1 == 1 {
		return truth
	}
	return number
}

// with tells the row with one more.
func (o operands) with(k kind) operands {
	if k == truth {
		o.bools[o.height/wordBits] |= 1 << (o.height % wordBits)
	}
	o.height++
	return o
}

// without tells the row without so many of the uppermost.
func (o operands) without(n int) operands {
	for range n {
		o.height--
		o.bools[o.height/wordBits] &^= 1 << (o.height % wordBits)
	}
	return o
}
