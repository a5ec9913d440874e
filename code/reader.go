package code

import "winnow/api"

// mostBytes is how many bytes a number may have: of seven bits each, so that it is never greater than an int can be.
const mostBytes = 9

// reader reads a program from the left.
type reader struct {
	bytes []byte
	at    int
	from  int // where what was read last begins
	ways  [kinds]way
}

// whole reads all bytes. The first fault ends it from wherever it is found.
func (r *reader) whole() (p api.Program, fault api.Fault) {
	defer func() {
		if thrown := recover(); thrown != nil {
			p, fault = api.Program{}, thrown.(api.Fault)
		}
	}()
	p = r.program()
	if r.at < len(r.bytes) {
		r.from = r.at
		r.fail(api.ErrTail)
	}
	return p, api.Fault{}
}

// fail ends all with a fault at what was read last.
func (r *reader) fail(err api.Errno) { panic(api.Fault{Err: err, At: r.from}) }

func (r *reader) program() (p api.Program) {
	r.tag()
	r.tables(&p)
	for range p.Ghost {
		p.On = append(p.On, r.number()-1)
	}
	p.Miss = r.number() - 1
	for range r.count(api.MaxCode) {
		p.Code = append(p.Code, r.instr())
	}
	return p
}

func (r *reader) tag() {
	r.from = r.at
	if r.next() != firstByte {
		r.fail(api.ErrTag)
	}
}

func (r *reader) tables(p *api.Program) {
	for range r.count(api.MaxQueues) {
		p.Ghost = append(p.Ghost, r.ghost())
	}
	for range r.count(api.MaxVars) {
		p.Vars = append(p.Vars, r.variable())
	}
	for range r.count(api.MaxTags) {
		p.Tags = append(p.Tags, r.number())
	}
}

func (r *reader) instr() api.Instr {
	op := r.number()
	if op >= api.ICount {
		r.fail(api.ErrOp)
	}
	var operands [4]int
	for at, k := range kindsOf(op) {
		operands[at] = r.ways[k].read(r)
	}
	return api.Instr{Op: op, A: operands[0], B: operands[1], C: operands[2], D: operands[3]}
}

func (r *reader) next() byte {
	if r.at == len(r.bytes) {
		r.from = r.at
		r.fail(api.ErrCut)
	}
	b := r.bytes[r.at]
	r.at++
	return b
}

func (r *reader) ghost() bool {
	r.from = r.at
	b := r.next()
	if b > 1 {
		r.fail(api.ErrForm)
	}
	return b == 1
}

func (r *reader) variable() (v api.Var) {
	v.Init = r.signed()
	v.Lo = r.signed()
	v.Hi = r.signed()
	return v
}

// count reads how many of something there are.
func (r *reader) count(most int) int {
	n := r.number()
	if n > most {
		r.fail(api.ErrProg)
	}
	return n
}

func (r *reader) nothing() int { return 0 }

func (r *reader) number() int {
	r.from = r.at
	n := 0
	for i := range mostBytes {
		b := r.next()
		if b == 0 && i > 0 {
			break // it adds nothing: there was a shorter form
		}
		n |= int(b&127) << (7 * i)
		if b < 128 {
			return n
		}
	}
	r.fail(api.ErrForm)
	return 0
}

func (r *reader) signed() int {
	n := r.number()
	if n%2 == 1 {
		return -(n / 2) - 1
	}
	return n / 2
}
