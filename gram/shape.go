package gram

import (
	"math"

	"winnow/api"
	"winnow/lex"
)

// firstWrong tells the number of the first row that is not as the table asks, or the one behind all, if one more must stand there; and whether there is one.
func firstWrong(tree []api.Row) (int, bool) {
	// A row above row 0, so that the policy is asked for as any other kid is.
	way := trail{{kids: 1}}
	for at, row := range tree {
		if len(way) == 0 || !mayStand(way.last(), row.Kind) || !filled(row) {
			return at, true
		}
		way = way.past(row, 0)
	}
	return len(tree), len(way) > 0
}

// mayStand tells whether a row of that kind may be the next kid.
func mayStand(over above, kind int) bool {
	switch over.kind {
	case 0:
		return kind == api.NPolicy
	case api.NPolicy:
		return isEvent(kind) || isDecl(kind) && !isEvent(over.kid)
	case api.NRule, api.NHit, api.NGhost, api.NMiss:
		return kind == api.NBlock
	case api.NBlock:
		return isDoing(kind)
	case api.NShift, api.NEvict:
		return kind == api.NPlace
	case api.NTagOf:
		return isItem(kind)
	}
	return mayFollow(over, kind)
}

// mayFollow tells it of rows that have expressions among their kids: by which one it is.
func mayFollow(over above, kind int) bool {
	switch {
	case over.kind == api.NMark && over.seen == 0:
		return isItem(kind)
	case over.kind == api.NLoop && over.seen == 2, over.kind == api.NIf && over.seen == 1:
		return kind == api.NBlock
	case over.kind == api.NIf && over.seen == 2:
		return kind == api.NBlock || kind == api.NIf
	}
	return isExpression(kind)
}

// filled tells whether a row has what its kind has, and nothing else.
func filled(row api.Row) bool {
	least, most := kidsOf(row.Kind)
	return nameFits(row) &&
		within(row.End, 0, lastEnd(row.Kind)) &&
		within(row.N, 0, lastNumber(row.Kind)) &&
		within(row.Kids, least, most)
}

func nameFits(row api.Row) bool {
	if named(row.Kind) {
		return lex.IsName(row.Name)
	}
	return row.Name == ""
}

func within(n, least, most int) bool { return least <= n && n <= most }

func isDecl(kind int) bool { return within(kind, api.NQueue, api.NRule) }

func isEvent(kind int) bool { return within(kind, api.NHit, api.NMiss) }

func isDoing(kind int) bool { return within(kind, api.NBlock, api.NPass) }

func isItem(kind int) bool { return kind == api.NX || kind == api.NEndOf }

func isExpression(kind int) bool { return within(kind, api.NNum, api.NOr) }

// named tells whether a row of that kind has a Name.
func named(kind int) bool {
	switch kind {
	case api.NPolicy, api.NQueue, api.NGhostQueue, api.NVar, api.NTag, api.NRule, api.NHit, api.NGhost,
		api.NSet, api.NMark, api.NCall, api.NVarOf, api.NTagOf,
		api.NLen, api.NCap, api.NEmpty, api.NFull, api.NAt:
		return true
	}
	return lastEnd(kind) > 0
}

// lastEnd is the greatest End that a row of that kind may have. (All that have one have a Name too: their queue's.)
func lastEnd(kind int) int {
	switch kind {
	case api.NInsert, api.NMove, api.NDrop, api.NShift, api.NEvict, api.NPlace, api.NEndOf:
		return api.Back
	}
	return 0
}

// lastNumber is the greatest N that a row of that kind may have.
func lastNumber(kind int) int {
	if kind == api.NNum {
		return api.MaxNum
	}
	return 0
}

// kidsOf tells how many kids a row of that kind has, at least and at most.
func kidsOf(kind int) (int, int) {
	switch kind {
	case api.NPolicy, api.NBlock:
		return 0, math.MaxInt
	case api.NEvict:
		return 0, 1
	case api.NTag, api.NRequire, api.NRule, api.NHit, api.NGhost, api.NMiss, api.NSet, api.NShift, api.NTagOf, api.NNeg, api.NNot:
		return 1, 1
	case api.NIf:
		return 2, 3
	case api.NMark, api.NMin, api.NMax:
		return 2, 2
	case api.NVar, api.NLoop:
		return 3, 3
	}
	if ruleOf(kind) < ruleBare {
		return 2, 2
	}
	return 0, 0
}

// opens tells how many levels a row of that kind opens by itself: for its kids, or for its Name.
func opens(kind int) int {
	switch kind {
	case api.NPolicy, api.NBlock, api.NEndOf, api.NTagOf, api.NMin, api.NMax, api.NNeg, api.NNot,
		api.NLen, api.NCap, api.NEmpty, api.NFull, api.NAt:
		return 1
	}
	return 0
}

// The grammar's rules of expressions: a lesser one holds less close.
const (
	ruleOr = 1 + iota
	ruleAnd
	ruleCompare
	ruleSum
	ruleTerm
	ruleBare
	ruleFirst
)

// ruleOf tells a kind's rule; ruleFirst of such too as are no expressions, since neither stands in brackets.
func ruleOf(kind int) int {
	switch kind {
	case api.NOr:
		return ruleOr
	case api.NAnd:
		return ruleAnd
	case api.NEq, api.NNe, api.NLt, api.NLe, api.NGt, api.NGe:
		return ruleCompare
	case api.NAdd, api.NSub:
		return ruleSum
	case api.NMul, api.NDiv:
		return ruleTerm
	case api.NNeg, api.NNot:
		return ruleBare
	}
	return ruleFirst
}
