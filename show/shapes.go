package show

import (
	"slices"
	"strconv"

	"winnow/api"
)

// shape tells the texts that stand around a row's kids: ahead of the first, between each two, behind the last. A byte 10 in them ends a line.
type shape func(row api.Row) []string

// shapes are those of each kind.
func shapes() []shape {
	return []shape{
		api.NPolicy:     policy,
		api.NQueue:      named("queue ", " resident;"),
		api.NGhostQueue: named("queue ", " ghost;"),
		api.NVar:        named("var ", " = ", " in ", " .. ", ";"),
		api.NTag:        named("tag ", " in ", ";"),
		api.NRequire:    plain("require ", ";"),
		api.NRule:       named("rule ", " ", ""),
		api.NHit:        named("on hit ", " ", ""),
		api.NGhost:      named("on ghost ", " ", ""),
		api.NMiss:       plain("on miss ", ""),
		api.NBlock:      block,
		api.NIf:         branch,
		api.NLoop:       plain("loop ", " while ", " ", ""),
		api.NSet:        named("set ", " = ", ";"),
		api.NMark:       mark,
		api.NInsert:     placed("insert ", ";"),
		api.NMove:       placed("move ", ";"),
		api.NForget:     plain("forget;"),
		api.NShift:      placed("shift ", " ", ";"),
		api.NEvict:      evict,
		api.NDrop:       placed("drop ", ";"),
		api.NCall:       named("call ", ";"),
		api.NPass:       plain("pass;"),
		api.NPlace:      placed("", ""),
		api.NX:          plain("x"),
		api.NEndOf:      endOf,
		api.NNum:        number,
		api.NTrue:       plain("true"),
		api.NFalse:      plain("false"),
		api.NSize:       plain("size"),
		api.NTotal:      plain("total"),
		api.NLen:        named("len(", ")"),
		api.NCap:        named("cap(", ")"),
		api.NEmpty:      named("empty(", ")"),
		api.NFull:       named("full(", ")"),
		api.NAt:         named("at(", ")"),
		api.NMin:        plain("min(", ", ", ")"),
		api.NMax:        plain("max(", ", ", ")"),
		api.NVarOf:      named("", ""),
		api.NTagOf:      named("", "(", ")"),
		api.NNeg:        plain("-", ""),
		api.NNot:        plain("!", ""),
		api.NMul:        sign("*"),
		api.NDiv:        sign("/"),
		api.NAdd:        sign("+"),
		api.NSub:        sign("-"),
		api.NEq:         sign("=="),
		api.NNe:         sign("!="),
		api.NLt:         sign("<"),
		api.NLe:         sign("<="),
		api.NGt:         sign(">"),
		api.NGe:         sign(">="),
		api.NAnd:        sign("&&"),
		api.NOr:         sign("||"),
	}
}

// plain is the shape of rows that are told by their kind alone.
func plain(texts ...string) shape {
	return func(api.Row) []string { return slices.Clone(texts) }
}

// named is that of rows that have their Name behind a text of the kind.
func named(ahead string, texts ...string) shape {
	return func(row api.Row) []string { return behind(ahead+row.Name, texts) }
}

// placed is that of rows that have their Name and their end there.
func placed(ahead string, texts ...string) shape {
	return func(row api.Row) []string { return behind(ahead+row.Name+" "+end(row), texts) }
}

// sign is that of a sign of two.
func sign(word string) shape { return plain("", " "+word+" ", "") }

// behind tells new texts: the same, the first one of them behind another.
func behind(ahead string, texts []string) []string {
	texts = slices.Clone(texts)
	texts[0] = ahead + texts[0]
	return texts
}

func end(row api.Row) string {
	if row.End == api.Front {
		return "front"
	}
	return "back"
}

func policy(row api.Row) []string { return behind("policy "+row.Name+" ", block(row)) }

// block has each of its kids on lines of its own.
func block(row api.Row) []string {
	if row.Kids == 0 {
		return []string{"{\n}"}
	}
	texts := slices.Repeat([]string{"\n"}, row.Kids+1)
	texts[0] = "{\n"
	texts[row.Kids] = "\n}"
	return texts
}

func branch(row api.Row) []string {
	if row.Kids == 2 {
		return []string{"if ", " ", ""}
	}
	return []string{"if ", " ", " else ", ""}
}

func mark(row api.Row) []string { return []string{"mark ", " " + row.Name + " = ", ";"} }

func evict(row api.Row) []string {
	if row.Kids == 0 {
		return placed("evict ", ";")(row)
	}
	return placed("evict ", " to ", ";")(row)
}

func endOf(row api.Row) []string { return []string{end(row) + "(" + row.Name + ")"} }

func number(row api.Row) []string { return []string{strconv.Itoa(row.N)} }
