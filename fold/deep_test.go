package fold_test

import (
	"slices"
	"testing"

	"winnow/api"
	"winnow/fold"
	"winnow/rule"
)

// most is how many rows a plan may have.
const most = 131072

// chain is so many of the same rows, one behind the other: each below the one ahead, if they have as many kids.
func chain(n int, rows ...api.Act) []api.Act { return slices.Repeat(rows, n) }

// head is a row whose kids are to follow.
func head(kind, kids int, numbers ...int) api.Act {
	a := mk(kind, numbers...).Act
	a.Kids = kids
	return a
}

var (
	inBlock     = head(api.RBlock, 1)
	branch      = head(api.RIf, 2)
	branches    = head(api.RIf, 3)
	setOne      = head(api.RSet, 1, 1)
	not, neg    = head(api.RNot, 1), head(api.RNeg, 1)
	and, or, eq = head(api.RAnd, 2), head(api.ROr, 2), head(api.REq, 2)
	plus        = head(api.RAdd, 2)
	yes, no     = head(api.RBool, 0, 1), head(api.RBool, 0, 0)
	here        = head(api.RAt, 0)
	empty       = head(api.RBlock, 0)
	forget      = head(api.RForget, 0)
)

// wantDeep wants what Run makes of so many rows, in a moment; and Left and Once to end.
func wantDeep(t *testing.T, what string, want []api.Act, rows ...[]api.Act) {
	t.Helper()
	p := plan(slices.Concat(rows...))
	if rule.Check(p) != api.OK || len(p.Miss) < 100000 {
		t.Fatalf("%s: %v, %d rows", what, rule.Check(p), len(p.Miss))
	}
	within(t, what, func() {
		got := run(t, p)
		if !slices.Equal(got.Miss, want) {
			t.Errorf("%s: %.300v; want %.300v", what, got.Miss, want)
		}
		if _, _, _, is := fold.Left(got); is {
			t.Errorf("%s: something is left", what)
		}
	})
	within(t, what+", once", func() {
		if _, _, _, is := fold.Left(p); !is || rule.Check(once(t, p)) != api.OK {
			t.Errorf("%s: nothing is left", what)
		}
	})
}

// one is rows as a list.
func one(rows ...api.Act) []api.Act { return rows }

func TestDeepSigns(t *testing.T) {
	tail := acts("block(forget)")
	asks, sets := one(inBlock, branch), one(inBlock, setOne)
	so, turned := acts("block(if(at 0, block(forget)))"), acts("block(if(at 0, block, block(forget)))")
	wantDeep(t, "nots", so, asks, chain(most-6, not), one(here), tail)
	wantDeep(t, "nots, one less", turned, asks, chain(most-7, not), one(here), tail)
	wantDeep(t, "nots of a bool", tail, asks, chain(most-6, not), one(yes), tail)
	wantDeep(t, "negatives", nil, sets, chain(most-4, neg), acts("var 1"))
	wantDeep(t, "negatives of a number", acts("block(set 1(num -7))"), sets, chain(most-3, neg), acts("num 7"))
	wantDeep(t, "ands to the right", so, asks, chain(65000, and, yes), one(here), tail)
	wantDeep(t, "ands to the left", so, asks, chain(65000, and), one(here), chain(65000, yes), tail)
	wantDeep(t, "ors to the left", so, asks, chain(65000, or), one(here), chain(65000, no), tail)
	wantDeep(t, "equals", turned, asks, chain(65001, eq), one(here), chain(65001, no), tail)
	wantDeep(t, "sums", nil, sets, chain(65000, plus), acts("var 1"), chain(65000, acts("num 0")...))
	wantDeep(t, "sums of numbers", acts("block(set 1(num 65000))"), sets, chain(65000, plus), acts("num 0"), chain(65000, acts("num 1")...))
	// A great expression that comes into many places, one behind the other.
	ats := slices.Concat(chain(30000, and, here), one(here))
	wantDeep(t, "ands of much", slices.Concat(asks, ats, tail), asks, chain(30000, and), ats, chain(30000, yes), tail)
	// What is around an RTag is harmless when it has gone.
	cut := slices.Concat(one(and, no), acts(tag))
	wantDeep(t, "a tag that goes", tail, asks, one(or), chain(most-20, not), cut, one(yes), tail)
	stays := slices.Concat(asks, chain(30000, or), acts(tag), chain(30000, yes), tail)
	wantDeep(t, "a tag that stays", stays, asks, chain(30000, or), chain(60000, not), acts(tag), chain(30000, yes), tail)
}

func TestDeepDoings(t *testing.T) {
	tail := acts("block(forget)")
	forgets := func(n int) []api.Act { return append(one(head(api.RBlock, n)), chain(n, forget)...) }
	wantDeep(t, "blocks", tail, chain(most-1, inBlock), one(forget))
	wantDeep(t, "empty blocks", nil, chain(most-1, inBlock), one(empty))
	wantDeep(t, "blocks with more behind", forgets(65001), chain(65000, head(api.RBlock, 2)), one(forget), chain(65000, forget))
	wantDeep(t, "ifs that are so", tail, chain(most/3-1, inBlock, branch, yes), tail)
	wantDeep(t, "ifs that are not so", tail, chain(most/4-1, inBlock, branches, no, empty), tail)
	wantDeep(t, "ifs of nots", tail, chain(most/4-1, inBlock, branch, not, no), tail)
	wantDeep(t, "the same ifs", acts("block(if(at 0, block(forget)))"), chain(most/3-1, inBlock, branch, here), tail)
	wantDeep(t, "the same elses", acts("block(if(at 0, block, block(forget)))"), chain(most/4-1, inBlock, branches, here, empty), tail)
	wantDeep(t, "the same ifs with more behind", slices.Concat(one(inBlock, branch, here), forgets(32001)), one(inBlock), chain(32000, branch, here, head(api.RBlock, 2)), one(forget), chain(32000, forget))
	wantDeep(t, "the same ifs one behind the other", acts("block(if(at 0, block(forget)))"), one(inBlock, branch, here, head(api.RBlock, 25001)), chain(25000, acts("if(at 0, block, block(forget))")...), one(forget))
	wantDeep(t, "loops", tail, chain(most/3-1, inBlock, head(api.RLoop, 2, 1), yes), tail)
	wantDeep(t, "sets", tail, one(head(api.RBlock, 65001)), chain(65000, acts("set 1(var 1)")...), one(forget))
	wantDeep(t, "blocks side by side", nil, one(head(api.RBlock, most-1)), chain(most-1, empty))
	evicts := slices.Concat(one(head(api.RBlock, 42001)), chain(42000, acts("evict 0 0")...), one(forget))
	wantDeep(t, "the hand", evicts, one(head(api.RBlock, 3*42000+1)), chain(42000, acts("block(take 0 0, tell, loose)")[1:]...), one(forget))
	// Two great expressions that are not the same: they are not held against each other again and again.
	great := func(last string) []api.Act { return slices.Concat(chain(12000, and, here), acts(last)) }
	unlike := slices.Concat(one(inBlock, branch), great("at 0"), one(inBlock, branch), great("at 1"), tail)
	wantDeep(t, "unlike ifs", unlike, one(inBlock, branch), great("at 0"), one(head(api.RBlock, 32001), branch), great("at 1"), tail, chain(32000, acts("set 1(var 1)")...))
}
