package absm_test

import (
	"slices"

	"winnow/api"
)

// plain is the machine of chapter 17 by chapter 14's table, read plainly: a queue is a slice, x is looked for in all of them, and a state is copied ahead of each Access.
type plain struct {
	p       api.Program
	c       api.Caps
	state   api.State
	stats   api.Stats
	key     uint64
	at      int
	used    int
	stack   []any // numbers and bools
	loops   []int // the rounds that are left, of the loop opened last at the end
	hand    []api.Entry
	evicted []uint64
	met     map[int]int // how often each Op was begun
}

func newPlain(p api.Program, c api.Caps) *plain {
	m := &plain{p: p, c: c, met: map[int]int{}}
	m.state.Queues = make([][]api.Entry, len(p.Ghost))
	for _, v := range p.Vars {
		m.state.Vars = append(m.state.Vars, v.Init)
	}
	return m
}

// apart is a state that shares nothing with another one.
func apart(s api.State) api.State {
	out := api.State{Vars: slices.Clone(s.Vars)}
	for _, list := range s.Queues {
		var other []api.Entry
		for _, e := range list {
			other = append(other, api.Entry{Key: e.Key, Tags: slices.Clone(e.Tags)})
		}
		out.Queues = append(out.Queues, other)
	}
	return out
}

func (m *plain) find() (queue, at int) {
	for q, list := range m.state.Queues {
		for i, e := range list {
			if e.Key == m.key {
				return q, i
			}
		}
	}
	return -1, -1
}

func (m *plain) total() int {
	n := 0
	for q, list := range m.state.Queues {
		if !m.p.Ghost[q] {
			n += len(list)
		}
	}
	return n
}

func (m *plain) access(key uint64) (answer api.Answer) {
	before := apart(m.state)
	m.key, m.evicted, m.used = key, nil, 0
	defer func() {
		switch trap := recover().(type) {
		case nil:
		case api.Trap:
			m.state = before
			answer = api.Answer{Trap: trap}
		default:
			panic(trap)
		}
	}()
	begin, hit := m.p.Miss, false
	if q, _ := m.find(); q >= 0 {
		begin, hit = m.p.On[q], !m.p.Ghost[q]
	}
	if begin >= 0 {
		m.run(begin)
	}
	if hit {
		m.stats.Hits++
	} else {
		m.stats.Misses++
	}
	m.stats.Evictions += len(m.evicted)
	return api.Answer{Hit: hit, Evicted: m.evicted}
}

// run goes on till IEnd is done; then nothing may be left.
func (m *plain) run(at int) {
	m.at, m.stack, m.loops, m.hand = at, nil, nil, nil
	for m.at >= 0 {
		i := m.p.Code[m.at]
		m.at++
		m.used++
		m.met[i.Op]++
		m.step(i)
	}
	if len(m.stack)+len(m.loops)+len(m.hand) > 0 {
		panic("something is left")
	}
}

func (m *plain) remove(key uint64) int {
	m.key = key
	q, i := m.find()
	if q < 0 {
		return api.RNone
	}
	m.out(q, i)
	m.stats.Removals++
	if m.p.Ghost[q] {
		return api.RGhost
	}
	return api.RResident
}

func (m *plain) push(operand any) { m.stack = append(m.stack, operand) }

// pop panics, if there is none, or it is of another type.
func pop[T any](m *plain) T {
	last := len(m.stack) - 1
	x := m.stack[last].(T)
	m.stack = m.stack[:last]
	return x
}

func (m *plain) step(i api.Instr) {
	switch {
	case i.Op == api.IEnd:
		m.at = -1
	case i.Op <= api.ITagEnd:
		m.push(m.leaf(i))
	case i.Op <= api.ILe:
		m.sign(i.Op)
	case i.Op <= api.IAgain:
		m.goOn(i)
	case i.Op == api.ISet:
		v := m.p.Vars[i.A]
		m.state.Vars[i.A] = brought(pop[int](m), v.Lo, v.Hi)
	case i.Op == api.IMarkX:
		m.itemX().Tags[i.A] = brought(pop[int](m), 0, m.p.Tags[i.A])
	case i.Op == api.IMarkEnd:
		m.itemEnd(i.A, i.B).Tags[i.C] = brought(pop[int](m), 0, m.p.Tags[i.C])
	default:
		m.bring(i)
	}
}

func (m *plain) leaf(i api.Instr) any {
	switch i.Op {
	case api.INum:
		return i.A
	case api.IBool:
		return i.A == 1
	case api.IVar:
		return m.state.Vars[i.A]
	case api.ILen:
		return len(m.state.Queues[i.A])
	case api.ICap:
		return m.c.Queues[i.A]
	case api.ISize:
		return m.c.Size
	case api.ITotal:
		return m.total()
	case api.IAt:
		q, _ := m.find()
		return q == i.A
	case api.ITagX:
		return m.itemX().Tags[i.A]
	}
	return m.itemEnd(i.A, i.B).Tags[i.C]
}

func (m *plain) sign(op int) {
	switch op {
	case api.INeg:
		m.push(clamp(-pop[int](m)))
		return
	case api.INot:
		m.push(!pop[bool](m))
		return
	case api.IEq:
		b, a := pop[any](m), pop[any](m)
		_, first := a.(bool)
		if _, second := b.(bool); first != second {
			panic("unlike operands")
		}
		m.push(a == b)
		return
	}
	b := pop[int](m)
	a := pop[int](m)
	m.push(map[int]func() any{
		api.IMin: func() any { return slices.Min([]int{a, b}) },
		api.IMax: func() any { return slices.Max([]int{a, b}) },
		api.IMul: func() any { return clamp(a * b) },
		api.IDiv: func() any { return clamp(floor(a, b)) },
		api.IAdd: func() any { return clamp(a + b) },
		api.ISub: func() any { return clamp(a - b) },
		api.ILt:  func() any { return a < b },
		api.ILe:  func() any { return a <= b },
	}[op]())
}

// goOn: m.at is the next place already.
func (m *plain) goOn(i api.Instr) {
	last := len(m.loops) - 1
	goes := true
	switch i.Op {
	case api.IElse:
		goes = !pop[bool](m)
	case api.ILoop:
		m.loops = append(m.loops, i.A)
		goes = false
	case api.ITurn:
		goes = m.loops[last] == 0
		m.loops[last]--
	case api.IQuit:
		goes = !pop[bool](m)
	}
	if goes && (i.Op == api.ITurn || i.Op == api.IQuit) {
		m.loops = m.loops[:last]
	}
	if goes {
		m.at = i.A
	}
}

// brought is a number brought into a range.
func brought(n, lo, hi int) int {
	if n < lo {
		return lo
	}
	if n > hi {
		return hi
	}
	return n
}

// clamp is W3's.
func clamp(n int) int { return brought(n, -(1 << 30), 1<<30) }

// floor is W3's division.
func floor(a, b int) int {
	if b == 0 {
		return 0
	}
	n := a / b
	if b > 0 && n*b > a || b < 0 && n*b < a {
		n--
	}
	return n
}

func (m *plain) itemX() *api.Entry {
	q, i := m.find()
	if q < 0 {
		panic(api.TWhere)
	}
	return &m.state.Queues[q][i]
}

func (m *plain) itemEnd(q, end int) *api.Entry {
	list := m.state.Queues[q]
	if len(list) == 0 {
		panic(api.TEmpty)
	}
	return &list[[]int{0, len(list) - 1}[end]]
}

func (m *plain) out(q, i int) api.Entry {
	e := m.state.Queues[q][i]
	m.state.Queues[q] = slices.Delete(m.state.Queues[q], i, i+1)
	return e
}

func (m *plain) into(q, end int, e api.Entry) {
	list := m.state.Queues[q]
	if len(list) >= m.c.Queues[q] || !m.p.Ghost[q] && m.total() >= m.c.Size {
		panic(api.TFull)
	}
	if end == api.Front {
		m.state.Queues[q] = append([]api.Entry{e}, list...)
	} else {
		m.state.Queues[q] = append(list, e)
	}
}

// bring does what brings entries from place to place.
func (m *plain) bring(i api.Instr) {
	take := api.Instr{Op: api.ITake, A: i.A, B: i.B}
	give := api.Instr{Op: api.IGive, A: i.C, B: i.D}
	switch i.Op {
	case api.IShift:
		m.all(take, give)
	case api.ISpill:
		m.all(take, api.Instr{Op: api.ITell}, give)
	case api.IEvict:
		m.all(take, api.Instr{Op: api.ITell}, api.Instr{Op: api.ILoose})
	case api.IDrop:
		m.all(take, api.Instr{Op: api.ILoose})
	case api.ITake:
		m.itemEnd(i.A, i.B)
		m.hand = append(m.hand, m.out(i.A, []int{0, len(m.state.Queues[i.A]) - 1}[i.B]))
	case api.IGive:
		m.into(i.A, i.B, m.hand[0])
		m.hand = m.hand[1:]
	case api.ITell:
		m.evicted = append(m.evicted, m.hand[0].Key)
	case api.ILoose:
		m.hand = m.hand[1:]
	default:
		m.bringX(i)
	}
	if len(m.hand) > 1 {
		panic("the hand is full")
	}
}

func (m *plain) all(list ...api.Instr) {
	for _, i := range list {
		m.bring(i)
	}
}

func (m *plain) bringX(i api.Instr) {
	if len(m.hand) > 0 {
		panic("the hand is full")
	}
	q, at := m.find()
	if i.Op == api.IInsert {
		if q >= 0 {
			panic(api.TWhere)
		}
		m.into(i.A, i.B, api.Entry{Key: m.key, Tags: make([]int, len(m.p.Tags))})
		return
	}
	if q < 0 || i.Op == api.IForget && !m.p.Ghost[q] {
		panic(api.TWhere)
	}
	e := m.out(q, at)
	if i.Op == api.IMove {
		m.into(i.A, i.B, e)
	}
}
