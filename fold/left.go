package fold

import "winnow/api"

// What may be left at a row: the numbers of the chapter's table.
const (
	nothing = iota
	allKnown
	firstKnown
	secondKnown
	twice
	idle
	timesZero
	equalKnown
	ifKnown
	ifNot
	emptySecond
	emptyIf
	sameInFirst
	sameInSecond
	idleLoop
	oneRound
	setToItself
	innerBlock
	inHand
	emptyEvent
)

// left tells the first of these that fits at a row. A row that has gone is of no kind: nothing is left there.
func left(n *node) int {
	switch kind(n) {
	case api.RNeg, api.RMin, api.RMax, api.RMul, api.RDiv, api.RAdd, api.RSub, api.REq, api.RLt, api.RLe, api.RNot:
		return leftOfSign(n)
	case api.RAnd, api.ROr:
		return leftOfJunction(n)
	case api.RIf:
		return leftOfIf(n)
	case api.RLoop:
		return leftOfLoop(n)
	case api.RSet:
		return leftOfSet(n)
	case api.RBlock:
		return leftOfBlock(n)
	case api.RTake:
		return inHand
	}
	return nothing
}

func leftOfSign(n *node) int {
	a, b := first(n), second(n)
	if isKnown(a) && (isKnown(b) || b == n.of.kids) {
		return allKnown
	}
	switch kind(n) {
	case api.RNot, api.RNeg:
		if kind(a) == kind(n) {
			return twice
		}
	case api.RAdd:
		if isNum(a, 0) {
			return idle
		}
		fallthrough
	case api.RSub:
		if isNum(b, 0) {
			return idle
		}
	case api.RMul:
		if (isNum(a, 0) || isNum(b, 0)) && isHarmless(n) {
			return timesZero
		}
		if isNum(a, 1) {
			return idle
		}
		fallthrough
	case api.RDiv:
		if isNum(b, 1) {
			return idle
		}
	case api.REq:
		if kind(a) == api.RBool || kind(b) == api.RBool {
			return equalKnown
		}
	}
	return nothing
}

func isKnown(n *node) bool { return kind(n) == api.RNum || kind(n) == api.RBool }

func isNum(n *node, number int) bool { return kind(n) == api.RNum && n.of.act.A == number }

func isHarmless(n *node) bool { return !n.of.tagged }

func leftOfJunction(n *node) int {
	a, b := first(n), second(n)
	switch {
	case kind(a) == api.RBool:
		return firstKnown
	case kind(b) == api.RBool && (!isEnough(n, b) || isHarmless(a)):
		return secondKnown
	}
	return nothing
}

// isEnough tells whether an RBool below an RAnd, or an ROr, is what that is then.
func isEnough(n, b *node) bool { return (kind(n) == api.ROr) == (b.of.act.A == 1) }

func leftOfIf(n *node) int {
	c := first(n)
	yes, no := blocks(n)
	switch {
	case kind(c) == api.RBool:
		return ifKnown
	case kind(c) == api.RNot:
		return ifNot
	case no != nil && isEmpty(no):
		return emptySecond
	case no == nil && isEmpty(yes) && isHarmless(c):
		return emptyIf
	case asksAgain(yes, c):
		return sameInFirst
	case no != nil && asksAgain(no, c):
		return sameInSecond
	}
	return nothing
}

// asksAgain tells whether a block begins with an RIf of the same rows.
func asksAgain(block, c *node) bool {
	kid := first(block)
	return kind(kid) == api.RIf && same(first(kid), c)
}

func leftOfLoop(n *node) int {
	c, rounds := first(n), n.of.act.A
	never := rounds == 0 || kind(c) == api.RBool && c.of.act.A == 0
	switch {
	case never || isHarmless(c) && isEmpty(second(n)):
		return idleLoop
	case rounds == 1:
		return oneRound
	}
	return nothing
}

func leftOfSet(n *node) int {
	if a := first(n); kind(a) == api.RVar && a.of.act.A == n.of.act.A {
		return setToItself
	}
	return nothing
}

func leftOfBlock(n *node) int {
	switch {
	case n.of.above == api.RBlock:
		return innerBlock
	case n.of.above == 0 && isEmpty(n):
		return emptyEvent
	}
	return nothing
}
