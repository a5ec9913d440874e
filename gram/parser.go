package gram

import "winnow/api"

// parser reads a text by the grammar's rules. Each takes its tokens, and lays its rows behind those that lie there.
type parser struct {
	text   []byte
	tokens []api.Token
	cut    api.Fault // lex's, where it ends the tokens; else they end with the text
	next   int       // the number of the token that is looked at
	levels int
	rows   []api.Row
	places []int

	decls, events, doings, items, bares map[string]rule
	signs                               map[string]int // those of two: the kinds of their rows
}

// rule reads one row and its own: found by the first word or sign, it is told the row's kind.
type rule struct {
	kind int
	read func(kind int)
}

func newParser(text []byte, tokens []api.Token, cut api.Fault) *parser {
	p := &parser{text: text, tokens: tokens, cut: cut}
	p.decls, p.events, p.doings = p.declRules(), p.eventRules(), p.doingRules()
	p.items, p.bares, p.signs = p.itemRules(), p.bareRules(), signKinds()
	return p
}

// tree reads all of the text. The first fault ends it from wherever it is found, as deep as that may be.
func (p *parser) tree() (rows []api.Row, places []int, fault api.Fault) {
	defer func() {
		if thrown := recover(); thrown != nil {
			rows, places, fault = nil, nil, thrown.(api.Fault)
		}
	}()
	p.policy()
	return p.rows, p.places, api.Fault{}
}

// fail ends all with a fault at the token that is looked at.
func (p *parser) fail(err api.Errno) {
	panic(api.Fault{Err: err, At: p.token().At})
}

// token is the one that is looked at. All ahead of it are taken: a fault of lex at it is the first one.
func (p *parser) token() api.Token {
	token := p.tokens[p.next]
	if token.Kind == api.TokEnd && p.cut.Err != api.OK {
		panic(p.cut)
	}
	return token
}

// word is that token's text; none at the end.
func (p *parser) word() string {
	token := p.token()
	return string(p.text[token.At:token.End])
}

// skip takes it.
func (p *parser) skip() { p.next++ }

// takes takes it, if it is the word or sign, and tells whether it was.
func (p *parser) takes(word string) bool {
	if p.word() != word {
		return false
	}
	p.skip()
	return true
}

// must takes it; there it has to be that word or sign.
func (p *parser) must(word string) {
	if !p.takes(word) {
		p.fail(api.ErrToken)
	}
}

// pick takes one of several words, and tells which one it was.
func (p *parser) pick(words ...string) int {
	for i, word := range words {
		if p.takes(word) {
			return i
		}
	}
	p.fail(api.ErrToken)
	return 0
}

// name takes a name.
func (p *parser) name() string {
	if p.token().Kind != api.TokName {
		p.fail(api.ErrToken)
	}
	name := p.word()
	p.skip()
	return name
}

// rise opens a level by the token that is looked at.
func (p *parser) rise() {
	if p.levels == api.MaxLevels {
		p.fail(api.ErrNest)
	}
	p.levels++
}

// open takes a sign that opens a level.
func (p *parser) open(sign string) {
	if p.word() != sign {
		p.fail(api.ErrToken)
	}
	p.rise()
	p.skip()
}

// shut takes a sign that closes one.
func (p *parser) shut(sign string) {
	p.must(sign)
	p.levels--
}

// lay lays a row whose place is that of the token that is looked at, and tells its number.
func (p *parser) lay(kind int) int {
	least, _ := kidsOf(kind)
	p.rows = append(p.rows, api.Row{Kind: kind, Kids: least})
	p.places = append(p.places, p.token().At)
	return len(p.rows) - 1
}

// begin lays a row, and takes its token.
func (p *parser) begin(kind int) int {
	at := p.lay(kind)
	p.skip()
	return at
}

// reads reads by the rule that begins with the token that is looked at, and tells whether there is one.
func (p *parser) reads(rules map[string]rule) bool {
	found, there := rules[p.word()]
	if there {
		found.read(found.kind)
	}
	return there
}

// one reads by a rule, one of which has to be there.
func (p *parser) one(rules map[string]rule) {
	if !p.reads(rules) {
		p.fail(api.ErrToken)
	}
}

// all reads by rules as long as there is one: kids of a row.
func (p *parser) all(at int, rules map[string]rule) {
	for p.reads(rules) {
		p.rows[at].Kids++
	}
}
