package gram

import (
	"slices"

	"winnow/api"
)

func (p *parser) bareRules() map[string]rule {
	return map[string]rule{
		"-":     {api.NNeg, p.unary},
		"!":     {api.NNot, p.unary},
		"true":  {api.NTrue, p.wordOnly},
		"false": {api.NFalse, p.wordOnly},
		"size":  {api.NSize, p.wordOnly},
		"total": {api.NTotal, p.wordOnly},
		"len":   {api.NLen, p.ofQueue},
		"cap":   {api.NCap, p.ofQueue},
		"empty": {api.NEmpty, p.ofQueue},
		"full":  {api.NFull, p.ofQueue},
		"at":    {api.NAt, p.ofQueue},
		"min":   {api.NMin, p.ofTwo},
		"max":   {api.NMax, p.ofTwo},
		"(":     {0, p.brackets},
	}
}

func signKinds() map[string]int {
	return map[string]int{
		"||": api.NOr,
		"&&": api.NAnd,
		"==": api.NEq,
		"!=": api.NNe,
		"<":  api.NLt,
		"<=": api.NLe,
		">":  api.NGt,
		">=": api.NGe,
		"+":  api.NAdd,
		"-":  api.NSub,
		"*":  api.NMul,
		"/":  api.NDiv,
	}
}

func (p *parser) or() { p.held(ruleOr, api.MaxTokens, p.and) }

func (p *parser) and() { p.held(ruleAnd, api.MaxTokens, p.compare) }

func (p *parser) compare() { p.held(ruleCompare, 1, p.sum) }

func (p *parser) sum() { p.held(ruleSum, api.MaxTokens, p.term) }

func (p *parser) term() { p.held(ruleTerm, api.MaxTokens, p.bare) }

// held reads parts and a rule's signs between them, at most so many.
func (p *parser) held(rule, most int, part func()) {
	first := len(p.rows)
	part()
	var rows []api.Row
	var places []int
	for len(rows) < most {
		kind := p.signs[p.word()]
		if ruleOf(kind) != rule {
			break
		}
		rows = append(rows, api.Row{Kind: kind, Kids: 2})
		places = append(places, p.token().At)
		p.skip()
		part()
	}
	// They hold together from the left: the last sign's row is ahead of all. So they are laid all at once, when all are known.
	slices.Reverse(rows)
	slices.Reverse(places)
	p.rows = slices.Insert(p.rows, first, rows...)
	p.places = slices.Insert(p.places, first, places...)
}

func (p *parser) bare() {
	switch p.token().Kind {
	case api.TokNumber:
		p.number()
	case api.TokName:
		p.named()
	default:
		p.one(p.bares)
	}
}

func (p *parser) number() {
	n := p.token().N
	at := p.begin(api.NNum)
	p.rows[at].N = n
}

// named reads a var, or a tag of an item: what stands behind the name tells which one.
func (p *parser) named() {
	at := p.lay(api.NVarOf)
	p.rows[at].Name = p.name()
	if p.word() != "(" {
		return
	}
	p.rows[at].Kind = api.NTagOf
	p.rows[at].Kids++
	p.open("(")
	p.one(p.items)
	p.shut(")")
}

// unary reads a sign whose level is open up to the end of what it stands ahead of.
func (p *parser) unary(kind int) {
	p.lay(kind)
	p.rise()
	p.skip()
	p.bare()
	p.levels--
}

func (p *parser) ofQueue(kind int) {
	at := p.begin(kind)
	p.rows[at].Name = p.inBrackets()
}

func (p *parser) ofTwo(kind int) {
	p.begin(kind)
	p.open("(")
	p.or()
	p.must(",")
	p.or()
	p.shut(")")
}

// brackets makes no row of its own.
func (p *parser) brackets(_ int) {
	p.open("(")
	p.or()
	p.shut(")")
}
