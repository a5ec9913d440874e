package fold_test

import (
	"slices"

	"winnow/api"
)

// plain is the machine of chapter 12 read plainly: a queue is a slice, x is looked for in all of them, and a state is copied ahead of each Access. It counts the instructions that chapter 14's table has for what is done.
type plain struct {
	used    int
	p       api.Plan
	c       api.Caps
	on      []*tree
	miss    *tree
	state   api.State
	stats   api.Stats
	key     uint64
	hand    api.Entry
	evicted []uint64
}

func newPlain(p api.Plan, c api.Caps) *plain {
	x := &plain{p: p, c: c}
	for _, rows := range p.On {
		event, _ := grow(rows)
		x.on = append(x.on, event)
	}
	x.miss, _ = grow(p.Miss)
	x.state.Queues = make([][]api.Entry, len(p.Ghost))
	for _, v := range p.Vars {
		x.state.Vars = append(x.state.Vars, v.Init)
	}
	return x
}

// apart is a state that shares nothing with another one.
func apart(s api.State) api.State {
	out := api.State{Vars: slices.Clone(s.Vars)}
	for _, list := range s.Queues {
		var other []api.Entry
		for _, e := range list {
			other = append(other, api.Entry{Key: e.Key, Tags: slices.Clone(e.Tags)})
		}
		out.Queues = append(out.Queues, other)
	}
	return out
}

func (x *plain) find() (queue, at int) {
	for q, list := range x.state.Queues {
		for i, e := range list {
			if e.Key == x.key {
				return q, i
			}
		}
	}
	return -1, -1
}

func (x *plain) total() int {
	n := 0
	for q, list := range x.state.Queues {
		if !x.p.Ghost[q] {
			n += len(list)
		}
	}
	return n
}

func (x *plain) access(key uint64) (answer api.Answer) {
	before := apart(x.state)
	x.key, x.evicted, x.used = key, nil, 0
	defer func() {
		if trap, is := recover().(api.Trap); is {
			x.state = before
			answer = api.Answer{Trap: trap}
		}
	}()
	event, hit := x.miss, false
	if q, _ := x.find(); q >= 0 {
		event, hit = x.on[q], !x.p.Ghost[q]
	}
	if event != nil {
		x.do(event)
		x.used++
	}
	if hit {
		x.stats.Hits++
	} else {
		x.stats.Misses++
	}
	x.stats.Evictions += len(x.evicted)
	return api.Answer{Hit: hit, Evicted: x.evicted}
}

func (x *plain) remove(key uint64) int {
	x.key = key
	q, i := x.find()
	if q < 0 {
		return api.RNone
	}
	x.out(q, i)
	x.stats.Removals++
	if x.p.Ghost[q] {
		return api.RGhost
	}
	return api.RResident
}

func (x *plain) do(a *tree) {
	switch a.Kind {
	case api.RBlock:
		for _, kid := range a.kids {
			x.do(kid)
		}
	case api.RIf:
		is := x.is(a.kids[0])
		x.used++
		if is {
			x.do(a.kids[1])
			x.used += len(a.kids) - 2
		} else if len(a.kids) > 2 {
			x.do(a.kids[2])
		}
	case api.RLoop:
		x.loop(a)
	case api.RSet:
		x.used++
		v := x.p.Vars[a.A]
		x.state.Vars[a.A] = brought(x.number(a.kids[0]), v.Lo, v.Hi)
	case api.RMark:
		x.used++
		n := x.number(a.kids[1])
		x.item(a.kids[0]).Tags[a.A] = brought(n, 0, x.p.Tags[a.A])
	case api.RShift:
		x.all(mk(api.RTake, a.A, a.B), mk(api.RGive, a.C, a.D))
	case api.RSpill:
		x.all(mk(api.RTake, a.A, a.B), mk(api.RTell), mk(api.RGive, a.C, a.D))
	case api.REvict:
		x.all(mk(api.RTake, a.A, a.B), mk(api.RTell), mk(api.RLoose))
	case api.RDrop:
		x.all(mk(api.RTake, a.A, a.B), mk(api.RLoose))
	default:
		x.all(a)
	}
}

// loop: a round has an ITurn, an IQuit, an IAgain; the last one, too, begins with an ITurn.
func (x *plain) loop(a *tree) {
	x.used += 2
	for range a.A {
		is := x.is(a.kids[0])
		x.used++
		if !is {
			return
		}
		x.do(a.kids[1])
		x.used += 2
	}
}

// all is one instruction.
func (x *plain) all(list ...*tree) {
	x.used++
	for _, a := range list {
		x.bring(a)
	}
}

// brought is a number brought into a range.
func brought(n, lo, hi int) int {
	if n < lo {
		return lo
	}
	if n > hi {
		return hi
	}
	return n
}

func (x *plain) out(q, i int) api.Entry {
	e := x.state.Queues[q][i]
	x.state.Queues[q] = slices.Delete(x.state.Queues[q], i, i+1)
	return e
}

func (x *plain) into(q, end int, e api.Entry) {
	list := x.state.Queues[q]
	if len(list) >= x.c.Queues[q] || !x.p.Ghost[q] && x.total() >= x.c.Size {
		panic(api.TFull)
	}
	if end == api.Front {
		x.state.Queues[q] = append([]api.Entry{e}, list...)
	} else {
		x.state.Queues[q] = append(list, e)
	}
}

// bring does what brings entries from place to place.
func (x *plain) bring(a *tree) {
	q, i := x.find()
	switch a.Kind {
	case api.RInsert:
		if q >= 0 {
			panic(api.TWhere)
		}
		x.into(a.A, a.B, api.Entry{Key: x.key, Tags: make([]int, len(x.p.Tags))})
	case api.RMove:
		if q < 0 {
			panic(api.TWhere)
		}
		x.into(a.A, a.B, x.out(q, i))
	case api.RForget:
		if q < 0 || !x.p.Ghost[q] {
			panic(api.TWhere)
		}
		x.out(q, i)
	case api.RTake:
		n := len(x.state.Queues[a.A])
		if n == 0 {
			panic(api.TEmpty)
		}
		x.hand = x.out(a.A, []int{0, n - 1}[a.B])
	case api.RGive:
		x.into(a.A, a.B, x.hand)
	case api.RTell:
		x.evicted = append(x.evicted, x.hand.Key)
	}
}

func (x *plain) item(a *tree) *api.Entry {
	if a.Kind == api.RX {
		q, i := x.find()
		if q < 0 {
			panic(api.TWhere)
		}
		return &x.state.Queues[q][i]
	}
	list := x.state.Queues[a.A]
	if len(list) == 0 {
		panic(api.TEmpty)
	}
	return &list[[]int{0, len(list) - 1}[a.B]]
}

// is reckons a bool.
func (x *plain) is(a *tree) bool {
	x.used++
	switch a.Kind {
	case api.RBool:
		return a.A == 1
	case api.RAt:
		q, _ := x.find()
		return q == a.A
	case api.RNot:
		return !x.is(a.kids[0])
	case api.RAnd:
		if x.used++; x.is(a.kids[0]) {
			return x.is(a.kids[1])
		}
		return false
	case api.ROr:
		if x.is(a.kids[0]) {
			x.used += 2
			return true
		}
		return x.is(a.kids[1])
	}
	if table[a.kids[0].Kind].is == "bool" {
		first := x.is(a.kids[0])
		return x.is(a.kids[1]) == first
	}
	first := x.number(a.kids[0])
	second := x.number(a.kids[1])
	return map[int]bool{api.REq: first == second, api.RLt: first < second, api.RLe: first <= second}[a.Kind]
}

// clamp is W3's.
func clamp(n int) int { return brought(n, -(1 << 30), 1<<30) }

// floor is W3's division.
func floor(a, b int) int {
	if b == 0 {
		return 0
	}
	n := a / b
	if b > 0 && n*b > a || b < 0 && n*b < a {
		n--
	}
	return n
}

func (x *plain) number(a *tree) int {
	x.used++
	switch a.Kind {
	case api.RNum:
		return a.A
	case api.RVar:
		return x.state.Vars[a.A]
	case api.RLen:
		return len(x.state.Queues[a.A])
	case api.RTotal:
		return x.total()
	case api.RTag:
		return x.item(a.kids[0]).Tags[a.A]
	case api.RNeg:
		return clamp(-x.number(a.kids[0]))
	}
	first := x.number(a.kids[0])
	second := x.number(a.kids[1])
	switch a.Kind {
	case api.RMin:
		return slices.Min([]int{first, second})
	case api.RMax:
		return slices.Max([]int{first, second})
	case api.RMul:
		return clamp(first * second)
	case api.RDiv:
		return clamp(floor(first, second))
	case api.RAdd:
		return clamp(first + second)
	}
	return clamp(first - second)
}
