package deno_test

import (
	"fmt"
	"math/rand"
	"slices"
	"strings"

	"winnow/api"
	"winnow/gram"
	"winnow/names"
)

// plain is the chapter read plainly: a queue is a slice, x is looked for in all of them, and a state is copied ahead of each Access.
type plain struct {
	p       api.Policy
	t       api.Typed
	c       api.Caps
	kids    [][]int
	state   api.State
	stats   api.Stats
	steps   int
	key     uint64
	evicted []uint64
	points  []api.Point
}

func newPlain(p api.Policy, t api.Typed, c api.Caps) *plain {
	x := &plain{p: p, t: t, c: c, kids: make([][]int, len(p.Rows))}
	x.hang(0)
	x.state.Queues = make([][]api.Entry, len(p.Queues))
	for _, v := range t.Vars {
		x.state.Vars = append(x.state.Vars, v.Init)
	}
	return x
}

// hang finds the kids of a row and of its own, and tells the row behind them.
func (x *plain) hang(at int) int {
	next := at + 1
	for range x.p.Rows[at].Kids {
		x.kids[at] = append(x.kids[at], next)
		next = x.hang(next)
	}
	return next
}

// apart is a state that shares nothing with another one.
func apart(s api.State) api.State {
	out := api.State{Vars: slices.Clone(s.Vars)}
	for _, list := range s.Queues {
		var other []api.Entry
		for _, e := range list {
			other = append(other, api.Entry{Key: e.Key, Tags: slices.Clone(e.Tags)})
		}
		out.Queues = append(out.Queues, other)
	}
	return out
}

func (x *plain) find(key uint64) (queue, at int) {
	for q, list := range x.state.Queues {
		for i, e := range list {
			if e.Key == key {
				return q, i
			}
		}
	}
	return -1, -1
}

func (x *plain) total() int {
	n := 0
	for q, list := range x.state.Queues {
		if !x.p.Queues[q].Ghost {
			n += len(list)
		}
	}
	return n
}

func (x *plain) access(key uint64) (answer api.Answer, points []api.Point) {
	before := apart(x.state)
	x.key, x.steps, x.evicted, x.points = key, 0, nil, nil
	defer func() {
		if trap, is := recover().(api.Trap); is {
			x.state = before
			answer, points = api.Answer{Trap: trap}, x.points
		}
	}()
	event, hit := x.p.Miss, false
	if q, _ := x.find(key); q >= 0 {
		event, hit = x.p.On[q], !x.p.Queues[q].Ghost
	}
	if event >= 0 {
		x.do(event)
	}
	if hit {
		x.stats.Hits++
	} else {
		x.stats.Misses++
	}
	x.stats.Evictions += len(x.evicted)
	return api.Answer{Hit: hit, Evicted: x.evicted}, x.points
}

func (x *plain) remove(key uint64) int {
	q, i := x.find(key)
	if q < 0 {
		return api.RNone
	}
	x.state.Queues[q] = slices.Delete(x.state.Queues[q], i, i+1)
	x.stats.Removals++
	if x.p.Queues[q].Ghost {
		return api.RGhost
	}
	return api.RResident
}

func (x *plain) begin(at int) {
	x.steps++
	if kind := x.p.Rows[at].Kind; kind < api.NIf || kind > api.NPass {
		return
	}
	point := api.Point{Row: at, Total: x.total(), Vars: slices.Clone(x.state.Vars)}
	point.Place, _ = x.find(x.key)
	for _, list := range x.state.Queues {
		point.Lens = append(point.Lens, len(list))
	}
	x.points = append(x.points, point)
}

func (x *plain) do(at int) {
	x.begin(at)
	row, kids := x.p.Rows[at], x.kids[at]
	switch row.Kind {
	case api.NBlock:
		for _, kid := range kids {
			x.do(kid)
		}
	case api.NIf:
		if x.is(kids[0]) {
			x.do(kids[1])
		} else if len(kids) > 2 {
			x.do(kids[2])
		}
	case api.NLoop:
		for n := 0; n < x.t.Rounds[at] && x.is(kids[1]); n++ {
			x.do(kids[2])
		}
	case api.NSet:
		n := x.number(kids[0])
		if lo := x.t.Vars[row.N].Lo; n < lo {
			n = lo
		}
		if hi := x.t.Vars[row.N].Hi; n > hi {
			n = hi
		}
		x.state.Vars[row.N] = n
	case api.NMark:
		n := x.number(kids[1])
		if n < 0 {
			n = 0
		}
		if most := x.t.Tags[row.N]; n > most {
			n = most
		}
		x.item(kids[0]).Tags[row.N] = n
	case api.NCall:
		x.do(x.p.Rules[row.N])
	case api.NPass:
	default:
		x.bring(at)
	}
}

func (x *plain) out(q, i int) api.Entry {
	e := x.state.Queues[q][i]
	x.state.Queues[q] = slices.Delete(x.state.Queues[q], i, i+1)
	return e
}

func (x *plain) into(q, end int, e api.Entry) {
	list := x.state.Queues[q]
	if len(list) >= x.c.Queues[q] || !x.p.Queues[q].Ghost && x.total() >= x.c.Size {
		panic(api.TFull)
	}
	if end == api.Front {
		x.state.Queues[q] = append([]api.Entry{e}, list...)
	} else {
		x.state.Queues[q] = append(list, e)
	}
}

// bring does what brings entries from queue to queue.
func (x *plain) bring(at int) {
	row := x.p.Rows[at]
	q, i := x.find(x.key)
	switch row.Kind {
	case api.NInsert:
		if q >= 0 {
			panic(api.TWhere)
		}
		x.into(row.N, row.End, api.Entry{Key: x.key, Tags: make([]int, len(x.p.Tags))})
		return
	case api.NMove:
		if q < 0 {
			panic(api.TWhere)
		}
		x.into(row.N, row.End, x.out(q, i))
		return
	case api.NForget:
		if q < 0 || !x.p.Queues[q].Ghost {
			panic(api.TWhere)
		}
		x.out(q, i)
		return
	}
	n := len(x.state.Queues[row.N])
	if n == 0 {
		panic(api.TEmpty)
	}
	hand := x.out(row.N, []int{0, n - 1}[row.End])
	if row.Kind == api.NEvict {
		x.evicted = append(x.evicted, hand.Key)
	}
	if row.Kids == 1 {
		x.into(x.p.Rows[at+1].N, x.p.Rows[at+1].End, hand)
	}
}

func (x *plain) item(at int) *api.Entry {
	x.begin(at)
	row := x.p.Rows[at]
	if row.Kind == api.NX {
		q, i := x.find(x.key)
		if q < 0 {
			panic(api.TWhere)
		}
		return &x.state.Queues[q][i]
	}
	list := x.state.Queues[row.N]
	if len(list) == 0 {
		panic(api.TEmpty)
	}
	return &list[[]int{0, len(list) - 1}[row.End]]
}

// is reckons a bool.
func (x *plain) is(at int) bool {
	x.begin(at)
	row, kids := x.p.Rows[at], x.kids[at]
	switch row.Kind {
	case api.NTrue, api.NFalse:
		return row.Kind == api.NTrue
	case api.NEmpty:
		return len(x.state.Queues[row.N]) == 0
	case api.NFull:
		return len(x.state.Queues[row.N]) == x.c.Queues[row.N]
	case api.NAt:
		q, _ := x.find(x.key)
		return q == row.N
	case api.NNot:
		return !x.is(kids[0])
	case api.NAnd:
		return x.is(kids[0]) && x.is(kids[1])
	case api.NOr:
		return x.is(kids[0]) || x.is(kids[1])
	}
	if isBool(x.p.Rows[kids[0]].Kind) {
		a := x.is(kids[0])
		b := x.is(kids[1])
		return (a == b) == (row.Kind == api.NEq)
	}
	a := x.number(kids[0])
	b := x.number(kids[1])
	return map[int]bool{api.NEq: a == b, api.NNe: a != b, api.NLt: a < b, api.NLe: a <= b, api.NGt: a > b, api.NGe: a >= b}[row.Kind]
}

func isBool(kind int) bool {
	return kind >= api.NEq || slices.Contains([]int{api.NTrue, api.NFalse, api.NEmpty, api.NFull, api.NAt, api.NNot}, kind)
}

// clamp is W3's.
func clamp(n int) int {
	const most = 1 << 30
	if n > most {
		return most
	}
	if n < -most {
		return -most
	}
	return n
}

// floor is W3's division.
func floor(a, b int) int {
	if b == 0 {
		return 0
	}
	n := a / b
	if b > 0 && n*b > a || b < 0 && n*b < a {
		n--
	}
	return n
}

func (x *plain) number(at int) int {
	x.begin(at)
	row, kids := x.p.Rows[at], x.kids[at]
	switch row.Kind {
	case api.NNum:
		return row.N
	case api.NSize:
		return x.c.Size
	case api.NCap:
		return x.c.Queues[row.N]
	case api.NLen:
		return len(x.state.Queues[row.N])
	case api.NTotal:
		return x.total()
	case api.NVarOf:
		return x.state.Vars[row.N]
	case api.NTagOf:
		return x.item(kids[0]).Tags[row.N]
	case api.NNeg:
		return clamp(-x.number(kids[0]))
	}
	a := x.number(kids[0])
	b := x.number(kids[1])
	switch row.Kind {
	case api.NMin:
		if a < b {
			return a
		}
		return b
	case api.NMax:
		if a > b {
			return a
		}
		return b
	case api.NMul:
		return clamp(a * b)
	case api.NDiv:
		return clamp(floor(a, b))
	case api.NAdd:
		return clamp(a + b)
	}
	return clamp(a - b)
}

// maker writes policies by chance, that are right in their types.
type maker struct {
	*rand.Rand
	care              float64 // how often a guard is there
	residents, ghosts []string
	vars, tags, rules []string
	inLoop            bool
}

func newMaker(seed int64, care float64) *maker {
	return &maker{Rand: rand.New(rand.NewSource(seed)), care: care}
}

func (m *maker) one(list ...string) string { return list[m.Intn(len(list))] }

func (m *maker) queues() []string { return slices.Concat(m.residents, m.ghosts) }

func (m *maker) queue() string { return m.one(m.queues()...) }

func (m *maker) end() string { return m.one("front", "back") }

// text is that of a policy. Its miss most often brings x in, so that there is something to do.
func (m *maker) text() string {
	text := "policy p { "
	for i := range 1 + m.Intn(3) {
		m.residents = append(m.residents, fmt.Sprint("a", i))
		text += fmt.Sprintf("queue a%d resident; ", i)
	}
	for i := range m.Intn(3) {
		m.ghosts = append(m.ghosts, fmt.Sprint("g", i))
		text += fmt.Sprintf("queue g%d ghost; ", i)
	}
	for i := range m.Intn(3) {
		m.vars = append(m.vars, fmt.Sprint("v", i))
		text += fmt.Sprintf("var v%d = 0 in %s .. %s; ", i, m.one("0", "-3", "-1073741824"), m.one("0", "1", "9", "size", "1073741824"))
	}
	for i := range m.Intn(3) {
		m.tags = append(m.tags, fmt.Sprint("t", i))
		text += fmt.Sprintf("tag t%d in %d; ", i, 1+m.Intn(5))
	}
	for i := range m.Intn(4) {
		m.inLoop = m.Intn(2) == 0 // such a rule may be called in a loop
		text += fmt.Sprintf("rule r%d { %s} ", i, m.doings(2))
		m.rules = append(m.rules, fmt.Sprint("r", i))
		m.inLoop = false
	}
	return text + m.events() + "}"
}

func (m *maker) events() string {
	var events []string
	for _, name := range m.residents {
		events = append(events, "on hit "+name)
	}
	for _, name := range m.ghosts {
		events = append(events, "on ghost "+name)
	}
	m.Shuffle(len(events), func(i, k int) { events[i], events[k] = events[k], events[i] })
	text := ""
	for _, event := range events[m.Intn(len(events)+1):] {
		text += fmt.Sprintf("%s { %s} ", event, m.doings(3))
	}
	inner := ""
	if m.Intn(8) > 0 {
		inner = m.insert()
	}
	switch m.Intn(6) {
	case 0:
		return text
	case 1:
		return fmt.Sprintf("on miss { %s%s} %s", m.doings(3), inner, text)
	case 2:
		return text + fmt.Sprintf("on miss { %s%s} ", inner, m.doings(3))
	}
	return text + fmt.Sprintf("on miss { %s} ", m.insert())
}

func (m *maker) insert() string {
	to := m.queue()
	return m.guarded(fmt.Sprintf("insert %s %s; ", to, m.end()), append(m.nowhere(), m.room(to)...)...)
}

func (m *maker) doings(depth int) string {
	text := ""
	for range 1 + m.Intn(4) {
		text += m.doing(depth)
	}
	return text
}

// guarded puts guards around a doing, one behind the other or in one another.
func (m *maker) guarded(doing string, needs ...string) string {
	needs = slices.DeleteFunc(needs, func(string) bool { return m.Float64() > m.care })
	if len(needs) == 0 {
		return doing
	}
	if m.Intn(3) == 0 {
		return fmt.Sprintf("if !(%s) { } else { %s} ", strings.Join(needs, " && "), doing)
	}
	if m.Intn(2) == 0 {
		return fmt.Sprintf("if %s { %s} ", strings.Join(needs, " && "), doing)
	}
	for _, need := range needs {
		doing = fmt.Sprintf("if %s { %s} ", need, doing)
	}
	return doing
}

func (m *maker) some(q string) string {
	return fmt.Sprintf(m.one("!empty(%s)", "len(%s) > 0", "0 < len(%s)", "len(%s) != 0", "!(len(%s) == 0)"), q)
}

func (m *maker) room(q string) []string {
	list := []string{fmt.Sprintf(m.one("!full(%s)", "len(%s) < cap(%[1]s)", "len(%s) != cap(%[1]s)"), q)}
	if slices.Contains(m.residents, q) {
		list = append(list, m.one("total < size", "total != size", "size > total", "!(total >= size)"))
	}
	return list
}

// nowhere says that x is at no queue.
func (m *maker) nowhere() []string {
	var list []string
	for _, name := range m.queues() {
		list = append(list, "!at("+name+")")
	}
	return list
}

func (m *maker) doing(depth int) string {
	n := 17
	if depth == 0 {
		n = 11
	}
	q := m.one(m.residents...)
	switch k := m.Intn(n); {
	case k <= 2 && m.inLoop && m.Float64() < m.care && m.Intn(30) > 0: // the judgment takes none of these in a loop
		return m.doing(depth)
	case k == 0:
		return m.insert()
	case k == 1:
		return m.guarded(fmt.Sprintf("move %s %s; ", q, m.end()), append(m.room(q), "at("+m.queue()+")")...)
	case k == 2 && len(m.ghosts) > 0:
		return m.guarded("forget; ", "at("+m.one(m.ghosts...)+")")
	case k == 3 && len(m.ghosts) > 0:
		g := m.one(m.ghosts...)
		return m.guarded(fmt.Sprintf("drop %s %s; ", g, m.end()), m.some(g))
	case k == 4:
		return m.shift()
	case k == 5:
		return m.guarded(fmt.Sprintf("evict %s %s; ", q, m.end()), m.some(q))
	case k == 6 && len(m.ghosts) > 0:
		g := m.one(m.ghosts...)
		return m.guarded(fmt.Sprintf("evict %s %s to %s %s; ", q, m.end(), g, m.end()), append(m.room(g), m.some(q))...)
	case k == 7 && len(m.vars) > 0:
		return m.using(func() string { return fmt.Sprintf("set %s = %s; ", m.one(m.vars...), m.num(3)) })
	case k == 8 && len(m.tags) > 0:
		return m.using(func() string {
			text := ""
			for _, item := range []string{"x", m.item(), m.item()}[m.Intn(3):] {
				text += fmt.Sprintf("mark %s %s = %s; ", item, m.one(m.tags...), m.num(2))
			}
			return text
		})
	case k == 9 && len(m.rules) > 0:
		return "call " + m.one(m.rules...) + "; "
	case k >= 11:
		return m.branch(k, depth)
	}
	return "pass; "
}

func (m *maker) shift() string {
	list := m.residents
	if len(m.ghosts) > 0 && m.Intn(2) == 0 {
		list = m.ghosts
	}
	from, to := m.one(list...), m.one(list...)
	needs := []string{m.some(from)}
	if from != to {
		needs = append(needs, m.room(to)[0])
	}
	return m.guarded(fmt.Sprintf("shift %s %s %s %s; ", from, m.end(), to, m.end()), needs...)
}

// branch is a loop, or one of the kinds of ifs.
func (m *maker) branch(k, depth int) string {
	if k <= 12 {
		was := m.inLoop
		m.inLoop = true
		defer func() { m.inLoop = was }()
		return m.using(func() string {
			return fmt.Sprintf("loop %s while %s { %s} ", m.one("0", "1", "3", "size", "2 * cap("+m.queue()+")"), m.truth(2), m.doings(depth-1))
		})
	}
	return m.using(func() string {
		text := fmt.Sprintf("if %s { %s} ", m.truth(3), m.doings(depth-1))
		switch k {
		case 13:
			return text + fmt.Sprintf("else if %s { %s} ", m.truth(1), m.doings(depth-1))
		case 14:
			return text + fmt.Sprintf("else { { %s} %s} ", m.doings(depth-1), m.doing(0))
		}
		return text
	})
}

// using makes a doing, again and again, till it has no item, or puts guards around it.
func (m *maker) using(make func() string) string {
	text := make()
	for m.Float64() < m.care && strings.Count(text, "(x)")+strings.Count(text, "(front(")+strings.Count(text, "(back(") > 0 && m.Intn(2) == 0 {
		text = make()
	}
	var needs []string
	for _, name := range m.queues() {
		if strings.Contains(text, "front("+name+")") || strings.Contains(text, "back("+name+")") {
			needs = append(needs, m.some(name))
		}
	}
	if strings.Contains(text, "(x)") || strings.Contains(text, "mark x") {
		var places []string
		for _, name := range m.queues() {
			places = append(places, "at("+name+")")
		}
		needs = append(needs, "("+strings.Join(places, " || ")+")")
	}
	return m.guarded(text, needs...)
}

func (m *maker) item() string {
	return m.one("x", "front("+m.queue()+")", "back("+m.queue()+")")
}

// num is an expression of the type Num.
func (m *maker) num(depth int) string {
	if depth > 0 && m.Intn(3) > 0 {
		a, b := m.num(depth-1), m.num(depth-1)
		return fmt.Sprintf(m.one("(%s + %s)", "(%s - %s)", "(%s * %s)", "(%s / %s)", "min(%s, %s)", "max(%s, %s)", "(-%s + %s)"), a, b)
	}
	list := []string{"total", "size", fmt.Sprint(m.Intn(5)), fmt.Sprint(m.Intn(5)), "len(" + m.queue() + ")", "len(" + m.queue() + ")", "cap(" + m.queue() + ")"}
	list = append(list, m.vars...)
	if len(m.tags) > 0 && m.Intn(4) == 0 {
		item := m.item()
		for _, name := range m.tags {
			list = append(list, name+"("+item+")", name+"("+item+")")
		}
	}
	if m.Intn(8) == 0 {
		list = append(list, "1073741824", "1073741824")
	}
	return m.one(list...)
}

// truth is an expression of the type Bool.
func (m *maker) truth(depth int) string {
	if depth > 0 && m.Intn(4) > 0 {
		switch m.Intn(8) {
		case 0:
			return "!" + m.truth(depth-1)
		case 1, 2:
			return fmt.Sprintf("(%s && %s)", m.truth(depth-1), m.truth(depth-1))
		case 3, 4:
			return fmt.Sprintf("(%s || %s)", m.truth(depth-1), m.truth(depth-1))
		case 5:
			return fmt.Sprintf("(%s %s %s)", m.truth(depth-1), m.one("==", "!="), m.truth(depth-1))
		}
		return fmt.Sprintf("(%s %s %s)", m.num(depth-1), m.one("==", "!=", "<", "<=", ">", ">="), m.num(depth-1))
	}
	if m.Intn(6) == 0 {
		return m.one("true", "false")
	}
	return m.one("empty", "full", "at") + "(" + m.queue() + ")"
}

// caps are small capacities that fit.
func (m *maker) caps(queues []api.Queue) api.Caps {
	c := api.Caps{Size: 1 + m.Intn(6)}
	for _, queue := range queues {
		most := c.Size
		if queue.Ghost {
			most = 4
		}
		c.Queues = append(c.Queues, most-m.Intn(min(most, 3)))
	}
	return c
}

// policy is one by chance, with its text.
func (m *maker) policy() (api.Policy, string) {
	for {
		text := m.text()
		rows, _, fault := gram.Parse([]byte(text))
		if fault != (api.Fault{}) {
			panic(fmt.Sprintf("%s: %v", text, fault))
		}
		p, fault := names.Resolve(rows)
		if fault == (api.Fault{}) {
			return p, text
		}
		if fault.Err != api.ErrLarge {
			panic(fmt.Sprintf("%s: %v", text, fault))
		}
		*m = maker{Rand: m.Rand, care: m.care}
	}
}
