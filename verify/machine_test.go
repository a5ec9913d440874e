package verify_test

import (
	"fmt"
	"math/rand"
	"slices"
	"testing"

	"winnow/api"
)

// machine does a program by chapter 14's table read plainly, and looks at each instruction whether all is there that it asks for (P1604).
type machine struct {
	p       api.Program
	c       api.Caps
	j       judged
	queues  [][]api.Entry
	vars    []int
	key     uint64
	at      int
	used    int
	stack   []any
	loops   []int // the rounds left
	hand    []held
	evicted []uint64
	met     map[int]int // how often each Op was done
}

// held is an entry in the hand: out of what kind of queue, and whether it was told.
type held struct {
	api.Entry
	ghost, told bool
}

// broken is what must never be.
type broken string

func newMachine(p api.Program, c api.Caps, j judged) *machine {
	m := &machine{p: p, c: c, j: j, queues: make([][]api.Entry, len(p.Ghost)), met: map[int]int{}}
	for _, v := range p.Vars {
		m.vars = append(m.vars, v.Init)
	}
	return m
}

// fill puts keys into the queues, by chance.
func (m *machine) fill(r *rand.Rand, keys int) {
	for _, key := range r.Perm(keys) {
		q, e := r.Intn(len(m.queues)), api.Entry{Key: uint64(key), Tags: make([]int, len(m.p.Tags))}
		room := m.p.Ghost[q] || len(m.residents()) < m.c.Size
		for t, most := range m.p.Tags {
			e.Tags[t] = r.Intn(most + 1)
		}
		if room && len(m.queues[q]) < m.c.Queues[q] && r.Intn(5) > 0 {
			m.queues[q] = append(m.queues[q], e)
		}
	}
}

func (m *machine) find() (q, n int) {
	for q, list := range m.queues {
		for n, e := range list {
			if e.Key == m.key {
				return q, n
			}
		}
	}
	return -1, -1
}

// residents are the resident keys, rising.
func (m *machine) residents() []uint64 {
	var list []uint64
	for q, entries := range m.queues {
		for _, e := range entries {
			if !m.p.Ghost[q] {
				list = append(list, e.Key)
			}
		}
	}
	slices.Sort(list)
	return list
}

func apart(queues [][]api.Entry) [][]api.Entry {
	var out [][]api.Entry
	for _, list := range queues {
		var other []api.Entry
		for _, e := range list {
			other = append(other, api.Entry{Key: e.Key, Tags: slices.Clone(e.Tags)})
		}
		out = append(out, other)
	}
	return out
}

// access does an Access, and tells its trap; it fails, if P1604 is broken.
func (m *machine) access(t *testing.T, key uint64) (trap api.Trap) {
	t.Helper()
	queues, vars := apart(m.queues), slices.Clone(m.vars)
	m.key, m.evicted, m.used = key, nil, 0
	before := m.residents()
	defer func() {
		switch x := recover().(type) {
		case nil:
			m.wantKeys(t, before)
		case api.Trap:
			m.queues, m.vars, trap = queues, vars, x
		default:
			t.Fatalf("%s\n%v at %d, of key %d, %v: %v", tell(m.p), m.c, m.at, key, queues, x)
		}
	}()
	begin, most := m.p.Miss, m.j.costs.Miss
	if q, _ := m.find(); q >= 0 {
		begin, most = m.p.On[q], m.j.costs.On[q]
	}
	if begin >= 0 {
		m.run(begin, most)
	}
	return api.TNone
}

// wantKeys: no key went untold out of a resident queue, none but x came into one; and no key stands twice, no queue has too many (T3).
func (m *machine) wantKeys(t *testing.T, before []uint64) {
	t.Helper()
	after := m.residents()
	for _, key := range before {
		if slices.Contains(after, key) == slices.Contains(m.evicted, key) && key != m.key {
			t.Fatalf("%s\n%d was resident; %v are, %v were told", tell(m.p), key, after, m.evicted)
		}
	}
	for _, key := range m.evicted {
		if !slices.Contains(before, key) && key != m.key {
			t.Fatalf("%s\n%d was told, and not resident", tell(m.p), key)
		}
	}
	if slices.Contains(before, m.key) && !slices.Contains(after, m.key) && !slices.Contains(m.evicted, m.key) {
		t.Fatalf("%s\n%d went untold", tell(m.p), m.key)
	}
	for _, key := range after {
		if !slices.Contains(before, key) && key != m.key {
			t.Fatalf("%s\n%d came", tell(m.p), key)
		}
	}
	seen := map[uint64]bool{}
	for q, list := range m.queues {
		for _, e := range list {
			if seen[e.Key] {
				t.Fatalf("%s\n%d stands twice", tell(m.p), e.Key)
			}
			seen[e.Key] = true
		}
		if len(list) > m.c.Queues[q] || len(after) > m.c.Size {
			t.Fatalf("%s\n%v under %v", tell(m.p), m.queues, m.c)
		}
	}
}

func (m *machine) run(begin, most int) {
	m.at, m.stack, m.loops, m.hand = begin, nil, nil, nil
	for m.at >= 0 {
		if m.used++; m.used > most {
			panic(broken(fmt.Sprint("more than ", most, " instructions")))
		}
		if len(m.stack) != m.j.heights[m.at] {
			panic(broken(fmt.Sprint(len(m.stack), " operands, not ", m.j.heights[m.at])))
		}
		i := m.p.Code[m.at]
		m.met[i.Op]++
		m.at++
		m.step(i)
	}
	if len(m.stack)+len(m.loops)+len(m.hand) > 0 {
		panic(broken("something is left"))
	}
}

func (m *machine) push(x any) { m.stack = append(m.stack, x) }

// pop panics, if there is none, or it is of another type.
func pop[T any](m *machine) T {
	last := len(m.stack) - 1
	x := m.stack[last].(T)
	m.stack = m.stack[:last]
	return x
}

func (m *machine) step(i api.Instr) {
	switch {
	case i.Op == api.IEnd:
		m.at = -1
	case i.Op <= api.ITagEnd:
		m.push(m.leaf(i))
	case i.Op <= api.ILe:
		m.sign(i.Op)
	case i.Op <= api.IAgain:
		m.goOn(i)
	case i.Op == api.ISet:
		v := m.p.Vars[i.A]
		m.vars[i.A] = min(max(pop[int](m), v.Lo), v.Hi)
	case i.Op == api.IMarkX:
		n := pop[int](m)
		m.itemX().Tags[i.A] = min(max(n, 0), m.p.Tags[i.A])
	case i.Op == api.IMarkEnd:
		n := pop[int](m)
		m.itemEnd(i.A, i.B).Tags[i.C] = min(max(n, 0), m.p.Tags[i.C])
	default:
		m.bring(i)
	}
}

func (m *machine) leaf(i api.Instr) any {
	switch i.Op {
	case api.INum:
		return i.A
	case api.IBool:
		return i.A == 1
	case api.IVar:
		return m.vars[i.A]
	case api.ILen:
		return len(m.queues[i.A])
	case api.ICap:
		return m.c.Queues[i.A]
	case api.ISize:
		return m.c.Size
	case api.ITotal:
		return len(m.residents())
	case api.IAt:
		q, _ := m.find()
		return q == i.A
	case api.ITagX:
		return m.itemX().Tags[i.A]
	}
	return m.itemEnd(i.A, i.B).Tags[i.C]
}

func (m *machine) sign(op int) {
	switch op {
	case api.INeg:
		m.push(-pop[int](m))
		return
	case api.INot:
		m.push(!pop[bool](m))
		return
	case api.IEq:
		if _, is := m.stack[len(m.stack)-1].(bool); is {
			m.push(pop[bool](m) == pop[bool](m))
		} else {
			m.push(pop[int](m) == pop[int](m))
		}
		return
	}
	b := pop[int](m)
	a := pop[int](m)
	switch op {
	case api.ILt:
		m.push(a < b)
	case api.ILe:
		m.push(a <= b)
	default:
		m.push(reckoned(op, a, b))
	}
}

func reckoned(op, a, b int) int {
	n := 0
	switch op {
	case api.IMin:
		n = min(a, b)
	case api.IMax:
		n = max(a, b)
	case api.IMul:
		n = a * b
	case api.IAdd:
		n = a + b
	case api.ISub:
		n = a - b
	case api.IDiv:
		if b != 0 {
			n = a / b
			if a%b != 0 && (a < 0) != (b < 0) {
				n--
			}
		}
	}
	return min(max(n, -1<<30), 1<<30)
}

func (m *machine) goOn(i api.Instr) {
	last := len(m.loops) - 1
	switch i.Op {
	case api.IJump, api.IAgain:
		m.at = i.A
	case api.IElse:
		if !pop[bool](m) {
			m.at = i.A
		}
	case api.ILoop:
		m.loops = append(m.loops, i.A)
	case api.ITurn:
		if m.loops[last]--; m.loops[last] < 0 {
			m.loops, m.at = m.loops[:last], i.A
		}
	case api.IQuit:
		if !pop[bool](m) {
			m.loops, m.at = m.loops[:last], i.A
		}
	}
}

func (m *machine) itemX() *api.Entry {
	q, n := m.find()
	if q < 0 {
		panic(api.TWhere)
	}
	return &m.queues[q][n]
}

func (m *machine) itemEnd(q, end int) *api.Entry {
	if len(m.queues[q]) == 0 {
		panic(api.TEmpty)
	}
	return &m.queues[q][[]int{0, len(m.queues[q]) - 1}[end]]
}

func (m *machine) out(q, n int) api.Entry {
	e := m.queues[q][n]
	m.queues[q] = slices.Delete(m.queues[q], n, n+1)
	return e
}

func (m *machine) into(q, end int, e api.Entry) {
	if len(m.queues[q]) >= m.c.Queues[q] || !m.p.Ghost[q] && len(m.residents()) >= m.c.Size {
		panic(api.TFull)
	}
	m.queues[q] = slices.Insert(m.queues[q], []int{0, len(m.queues[q])}[end], e)
}

func (m *machine) bring(i api.Instr) {
	switch i.Op {
	case api.ITake:
		m.take(i.A, i.B)
	case api.IGive:
		m.give(i.A, i.B)
	case api.ITell:
		m.tell()
	case api.ILoose:
		m.loose()
	case api.IShift:
		m.take(i.A, i.B)
		m.give(i.C, i.D)
	case api.ISpill:
		m.take(i.A, i.B)
		m.tell()
		m.give(i.C, i.D)
	case api.IEvict:
		m.take(i.A, i.B)
		m.tell()
		m.loose()
	case api.IDrop:
		m.take(i.A, i.B)
		m.loose()
	default:
		m.bringX(i)
	}
}

func (m *machine) take(q, end int) {
	if len(m.hand) > 0 {
		panic(broken("the hand is full"))
	}
	if len(m.queues[q]) == 0 {
		panic(api.TEmpty)
	}
	m.hand = []held{{m.out(q, []int{0, len(m.queues[q]) - 1}[end]), m.p.Ghost[q], false}}
}

func (m *machine) give(q, end int) {
	h := m.hand[0]
	if m.p.Ghost[q] != (h.ghost || h.told) {
		panic(broken("it comes into a queue of another kind"))
	}
	m.into(q, end, h.Entry)
	m.hand = nil
}

func (m *machine) tell() {
	if m.hand[0].ghost || m.hand[0].told {
		panic(broken("it is told, and was not resident"))
	}
	m.hand[0].told = true
	m.evicted = append(m.evicted, m.hand[0].Key)
}

func (m *machine) loose() {
	if !m.hand[0].ghost && !m.hand[0].told {
		panic(broken("it goes untold"))
	}
	m.hand = nil
}

func (m *machine) bringX(i api.Instr) {
	if len(m.hand) > 0 {
		panic(broken("the hand is full"))
	}
	q, n := m.find()
	if i.Op == api.IInsert {
		if q >= 0 {
			panic(api.TWhere)
		}
		m.into(i.A, i.B, api.Entry{Key: m.key, Tags: make([]int, len(m.p.Tags))})
		return
	}
	if q < 0 || i.Op == api.IForget && !m.p.Ghost[q] {
		panic(api.TWhere)
	}
	e := m.out(q, n)
	if i.Op == api.IMove {
		m.into(i.A, i.B, e)
	}
}
