package fold

import "winnow/api"

// do does what is left at a row, to the letter. Where a block has come into another one by that, and is left there now, it tells that block.
func do(n *node, what int) (block *node) {
	switch what {
	case allKnown:
		n.of.act = reckoned(n)
		put(inside(n.of.kids))
	case firstKnown, secondKnown, twice, idle, timesZero:
		replace(n, remaining(n, what))
	case equalKnown:
		doEqual(n)
	case ifKnown:
		return decide(n, first(n).of.act.A == 1)
	case ifNot:
		turn(n)
	case emptySecond:
		_, no := blocks(n)
		replace(no, nil)
	case sameInFirst:
		yes, _ := blocks(n)
		return decide(first(yes), true)
	case sameInSecond:
		_, no := blocks(n)
		return decide(first(no), false)
	case oneRound:
		n.of.act = api.Act{Kind: api.RIf}
	case innerBlock:
		put(one(n), inside(n.of.kids))
		n.of.act = api.Act{}
	case inHand:
		doHand(n)
	default:
		replace(n, nil)
	}
	return nil
}

// replace has a row (nil: nothing) stand in another one's place, which has gone then.
func replace(n, by *node) {
	put(one(n), one(by))
	n.of.act = api.Act{}
}

// remaining is the row, of those below an expression, that is to stand in its place.
func remaining(n *node, what int) *node {
	known, other := apart(n)
	switch what {
	case firstKnown, secondKnown:
		if isEnough(n, known) {
			return known
		}
	case twice:
		return first(first(n))
	case timesZero:
		return known
	}
	return other
}

// apart are two kids, of which the first is known, or else the second: that one, and the other one.
func apart(n *node) (known, other *node) {
	a, b := first(n), second(n)
	if isKnown(a) {
		return a, b
	}
	return b, a
}

func doEqual(n *node) {
	known, other := apart(n)
	if known.of.act.A == 1 {
		replace(n, other)
		return
	}
	replace(known, nil)
	n.of.act = api.Act{Kind: api.RNot, Kids: 1}
}

// decide has the block to which an RIf is known to come stand in its place.
func decide(n *node, is bool) (block *node) {
	yes, no := blocks(n)
	if is {
		block = yes
	} else {
		block = no
	}
	replace(n, block)
	return block
}

// turn takes an RNot out of an RIf. Where there is no second block, the row that was the RNot becomes the empty one.
func turn(n *node) {
	not := first(n)
	yes, no := blocks(n)
	old := run[row]{yes, n.of.kids.prev}
	put(one(not), one(first(not)))
	if no == nil {
		no = not
		no.of.act = api.Act{Kind: api.RBlock}
		bind(no.of.kids, nil)
	}
	put(old, one(no), one(yes))
}

// doHand has one act do what those from an RTake on do.
func doHand(n *node) {
	took, last := n.of.act, n.next
	told := kind(last) == api.RTell
	if told {
		last = last.next
	}
	gave := last.of.act
	whole := api.Act{A: took.A, B: took.B, C: gave.A, D: gave.B}
	switch {
	case gave.Kind == api.RGive && told:
		whole.Kind = api.RSpill
	case gave.Kind == api.RGive:
		whole.Kind = api.RShift
	case told:
		whole.Kind = api.REvict
	default:
		whole.Kind = api.RDrop
	}
	n.of.act = whole
	put(run[row]{n, last}, one(n))
}
