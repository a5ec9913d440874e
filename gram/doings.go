package gram

import "winnow/api"

func (p *parser) declRules() map[string]rule {
	return map[string]rule{
		"queue":   {api.NQueue, p.queue},
		"var":     {api.NVar, p.variable},
		"tag":     {api.NTag, p.tag},
		"require": {api.NRequire, p.require},
		"rule":    {api.NRule, p.ruleDecl},
	}
}

func (p *parser) eventRules() map[string]rule {
	return map[string]rule{"on": {api.NHit, p.event}}
}

func (p *parser) doingRules() map[string]rule {
	return map[string]rule{
		"{":      {api.NBlock, p.block},
		"if":     {api.NIf, p.branch},
		"loop":   {api.NLoop, p.loop},
		"set":    {api.NSet, p.set},
		"mark":   {api.NMark, p.mark},
		"insert": {api.NInsert, p.atEnd},
		"move":   {api.NMove, p.atEnd},
		"forget": {api.NForget, p.alone},
		"shift":  {api.NShift, p.shift},
		"evict":  {api.NEvict, p.evict},
		"drop":   {api.NDrop, p.atEnd},
		"call":   {api.NCall, p.call},
		"pass":   {api.NPass, p.alone},
	}
}

func (p *parser) itemRules() map[string]rule {
	return map[string]rule{
		"x":     {api.NX, p.wordOnly},
		"front": {api.NEndOf, p.endOf},
		"back":  {api.NEndOf, p.endOf},
	}
}

// policy reads the whole text.
func (p *parser) policy() {
	at := p.lay(api.NPolicy)
	p.must("policy")
	p.rows[at].Name = p.name()
	p.open("{")
	p.all(at, p.decls)
	p.all(at, p.events)
	p.shut("}")
	if p.token().Kind != api.TokEnd {
		p.fail(api.ErrToken)
	}
}

func (p *parser) queue(kind int) {
	at := p.begin(kind)
	p.rows[at].Name = p.name()
	p.rows[at].Kind += p.pick("resident", "ghost")
	p.must(";")
}

func (p *parser) variable(kind int) {
	at := p.begin(kind)
	p.rows[at].Name = p.name()
	p.must("=")
	p.or()
	p.must("in")
	p.or()
	p.must("..")
	p.or()
	p.must(";")
}

func (p *parser) tag(kind int) {
	at := p.begin(kind)
	p.rows[at].Name = p.name()
	p.must("in")
	p.or()
	p.must(";")
}

func (p *parser) require(kind int) {
	p.begin(kind)
	p.or()
	p.must(";")
}

func (p *parser) ruleDecl(kind int) {
	at := p.begin(kind)
	p.rows[at].Name = p.name()
	p.block(api.NBlock)
}

// event reads one of three, whose kinds stand side by side from that of hit on.
func (p *parser) event(kind int) {
	at := p.begin(kind)
	p.rows[at].Kind += p.pick("hit", "ghost", "miss")
	if p.rows[at].Kind != api.NMiss {
		p.rows[at].Name = p.name()
	}
	p.block(api.NBlock)
}

func (p *parser) block(kind int) {
	at := p.lay(kind)
	p.open("{")
	p.all(at, p.doings)
	p.shut("}")
}

// branch reads an if, and those behind its else one by one, since a row of them opens no levels and may be long.
func (p *parser) branch(kind int) {
	for {
		at := p.begin(kind)
		p.or()
		p.block(api.NBlock)
		if !p.takes("else") {
			return
		}
		p.rows[at].Kids++
		if p.word() != "if" {
			p.block(api.NBlock)
			return
		}
	}
}

func (p *parser) loop(kind int) {
	p.begin(kind)
	p.or()
	p.must("while")
	p.or()
	p.block(api.NBlock)
}

func (p *parser) set(kind int) {
	at := p.begin(kind)
	p.rows[at].Name = p.name()
	p.must("=")
	p.or()
	p.must(";")
}

func (p *parser) mark(kind int) {
	at := p.begin(kind)
	p.one(p.items)
	p.rows[at].Name = p.name()
	p.must("=")
	p.or()
	p.must(";")
}

// atEnd reads a doing at one end of a queue.
func (p *parser) atEnd(kind int) {
	at := p.begin(kind)
	p.spot(at)
	p.must(";")
}

// alone reads a doing of one word.
func (p *parser) alone(kind int) {
	p.begin(kind)
	p.must(";")
}

func (p *parser) shift(kind int) {
	at := p.begin(kind)
	p.spot(at)
	p.spot(p.lay(api.NPlace))
	p.must(";")
}

func (p *parser) evict(kind int) {
	at := p.begin(kind)
	p.spot(at)
	if p.takes("to") {
		p.rows[at].Kids++
		p.spot(p.lay(api.NPlace))
	}
	p.must(";")
}

func (p *parser) call(kind int) {
	at := p.begin(kind)
	p.rows[at].Name = p.name()
	p.must(";")
}

// spot reads a queue's name and which end of it a row is about.
func (p *parser) spot(at int) {
	p.rows[at].Name = p.name()
	p.rows[at].End = p.end()
}

func (p *parser) end() int { return p.pick("front", "back") }

// wordOnly reads a row that is one word.
func (p *parser) wordOnly(kind int) { p.begin(kind) }

func (p *parser) endOf(kind int) {
	at := p.lay(kind)
	p.rows[at].End = p.end()
	p.rows[at].Name = p.inBrackets()
}

// inBrackets reads a name in brackets.
func (p *parser) inBrackets() string {
	p.open("(")
	name := p.name()
	p.shut(")")
	return name
}
