package room_test

import (
	"fmt"
	"math/rand"
	"slices"
	"strings"

	"winnow/api"
)

// plain judges a policy as the chapter's words have it, each word by itself: a view is api.Facts, a dead one has Reached false, a fault ends all by a panic.
type plain struct {
	p    api.Policy
	t    api.Typed
	c    api.Caps
	kids [][]int
	told []api.Facts
}

func newPlain(p api.Policy, t api.Typed, c api.Caps) *plain {
	x := &plain{p: p, t: t, c: c, kids: make([][]int, len(p.Rows)), told: make([]api.Facts, len(p.Rows))}
	x.hang(0)
	return x
}

func (x *plain) hang(at int) int {
	next := at + 1
	for range x.p.Rows[at].Kids {
		x.kids[at] = append(x.kids[at], next)
		next = x.hang(next)
	}
	return next
}

// judge is P903, behind the errors at 0.
func (x *plain) judge() (facts []api.Facts, fault api.Fault) {
	defer func() {
		switch f := recover().(type) {
		case nil:
		case api.Fault:
			facts, fault = nil, f
		default:
			panic(f)
		}
	}()
	for _, at := range x.kids[0] {
		row := x.p.Rows[at]
		if row.Kind != api.NHit && row.Kind != api.NGhost && row.Kind != api.NMiss {
			continue
		}
		v := api.Facts{Reached: true, Total: api.Span{Hi: x.c.Size}, At: make([]bool, len(x.p.Queues))}
		for _, n := range x.c.Queues {
			v.Lens = append(v.Lens, api.Span{Hi: n})
		}
		for _, w := range x.t.Vars {
			v.Vars = append(v.Vars, api.Span{Lo: w.Lo, Hi: w.Hi})
		}
		if row.Kind == api.NMiss {
			v.Nowhere = true
		} else {
			v.At[row.N] = true
		}
		x.done(x.cut(v), x.kids[at][0])
	}
	return x.told, api.Fault{}
}

func refused(err api.Errno, at int) { panic(api.Fault{Err: err, At: at}) }

// apart is a view that shares nothing.
func apart(v api.Facts) api.Facts {
	v.Lens, v.Vars, v.At = slices.Clone(v.Lens), slices.Clone(v.Vars), slices.Clone(v.At)
	return v
}

func met(a, b api.Span) api.Span {
	if a.Lo > a.Hi || b.Lo > b.Hi || a.Hi < b.Lo || b.Hi < a.Lo {
		return api.Span{Lo: 1}
	}
	ends := []int{a.Lo, a.Hi, b.Lo, b.Hi}
	slices.Sort(ends)
	return api.Span{Lo: ends[1], Hi: ends[2]}
}

func joined(a, b api.Span) api.Span {
	if a.Lo > a.Hi && b.Lo > b.Hi {
		return api.Span{Lo: 1}
	}
	if a.Lo > a.Hi {
		return b
	}
	if b.Lo > b.Hi {
		return a
	}
	ends := []int{a.Lo, a.Hi, b.Lo, b.Hi}
	slices.Sort(ends)
	return api.Span{Lo: ends[0], Hi: ends[3]}
}

func (x *plain) cut(v api.Facts) api.Facts {
	if !v.Reached {
		return api.Facts{}
	}
	v = apart(v)
	places, last := 0, -1
	if v.Nowhere {
		places = 1
	}
	for q := range v.Lens {
		if v.Lens[q].Hi == 0 {
			v.At[q] = false
		}
		if v.At[q] {
			places++
			last = q
		}
	}
	if places == 1 && last >= 0 && v.Lens[last].Lo < 1 {
		v.Lens[last].Lo = 1
	}
	low, high := 0, 0
	for q, queue := range x.p.Queues {
		if !queue.Ghost {
			low += v.Lens[q].Lo
			high += v.Lens[q].Hi
		}
	}
	v.Total = met(v.Total, api.Span{Lo: low, Hi: high})
	dead := places == 0 || v.Total.Lo > v.Total.Hi
	for q, queue := range x.p.Queues {
		if !queue.Ghost {
			others, most := low-v.Lens[q].Lo, high-v.Lens[q].Hi
			v.Lens[q] = met(v.Lens[q], api.Span{Lo: v.Total.Lo - most, Hi: v.Total.Hi - others})
		}
	}
	for _, s := range slices.Concat(v.Lens, v.Vars) {
		dead = dead || s.Lo > s.Hi
	}
	if dead {
		return api.Facts{}
	}
	return v
}

func (x *plain) join(v, w api.Facts) api.Facts {
	if !v.Reached {
		return w
	}
	if !w.Reached {
		return v
	}
	v = apart(v)
	for q := range v.Lens {
		v.Lens[q] = joined(v.Lens[q], w.Lens[q])
		v.At[q] = v.At[q] || w.At[q]
	}
	for i := range v.Vars {
		v.Vars[i] = joined(v.Vars[i], w.Vars[i])
	}
	v.Total = joined(v.Total, w.Total)
	v.Nowhere = v.Nowhere || w.Nowhere
	return v
}

// clamp is W3's.
func clamp(n int) int {
	if n > 1<<30 {
		return 1 << 30
	}
	if n < -1<<30 {
		return -1 << 30
	}
	return n
}

// floor is a divided by b, to the floor; 0, if b is.
func floor(a, b int) int {
	if b == 0 {
		return 0
	}
	n := a / b
	for n*b > a && b > 0 || n*b < a && b < 0 {
		n--
	}
	return n
}

// reckon is what a row of two numbers comes to.
func reckon(kind, a, b int) int {
	switch kind {
	case api.NAdd:
		return clamp(a + b)
	case api.NSub:
		return clamp(a - b)
	case api.NMul:
		return clamp(a * b)
	case api.NDiv:
		return clamp(floor(a, b))
	case api.NMin:
		if a < b {
			return a
		}
		return b
	case api.NMax:
		if a > b {
			return a
		}
		return b
	}
	return clamp(-a)
}

// some are numbers of a span, clamped: its ends, and all at which an operation may turn.
func some(s api.Span) []int {
	lo, hi := clamp(s.Lo), clamp(s.Hi)
	var list []int
	for _, n := range []int{lo, lo + 1, hi - 1, hi, -2, -1, 0, 1, 2} {
		if lo <= n && n <= hi {
			list = append(list, n)
		}
	}
	return list
}

// reckoned is P902, of a kind of row; NNeg takes the first span alone.
func reckoned(kind int, a, b api.Span) api.Span {
	if a.Lo > a.Hi || b.Lo > b.Hi {
		return api.Span{Lo: 1}
	}
	var all []int
	for _, m := range some(a) {
		for _, n := range some(b) {
			all = append(all, reckon(kind, m, n))
		}
	}
	return api.Span{Lo: slices.Min(all), Hi: slices.Max(all)}
}

func (x *plain) span(v api.Facts, at int) api.Span {
	row := x.p.Rows[at]
	switch row.Kind {
	case api.NNum:
		return api.Span{Lo: row.N, Hi: row.N}
	case api.NSize:
		return api.Span{Lo: x.c.Size, Hi: x.c.Size}
	case api.NCap:
		return api.Span{Lo: x.c.Queues[row.N], Hi: x.c.Queues[row.N]}
	case api.NTagOf:
		return api.Span{Hi: x.t.Tags[row.N]}
	case api.NNeg:
		return reckoned(row.Kind, x.span(v, at+1), api.Span{})
	}
	if s := x.held(&v, at); s != nil {
		return *s
	}
	return reckoned(row.Kind, x.span(v, x.kids[at][0]), x.span(v, x.kids[at][1]))
}

// held is the span that a view has of a row, if it is one of those.
func (x *plain) held(v *api.Facts, at int) *api.Span {
	row := x.p.Rows[at]
	switch row.Kind {
	case api.NLen:
		return &v.Lens[row.N]
	case api.NTotal:
		return &v.Total
	case api.NVarOf:
		return &v.Vars[row.N]
	}
	return nil
}

// to narrows a kid to a span.
func (x *plain) to(v api.Facts, at int, s api.Span) api.Facts {
	if !v.Reached {
		return v
	}
	v = apart(v)
	if h := x.held(&v, at); h != nil {
		*h = met(*h, s)
		if h.Lo > h.Hi {
			return api.Facts{}
		}
		return v
	}
	if m := met(x.span(v, at), s); m.Lo > m.Hi {
		return api.Facts{}
	}
	return v
}

func isBool(kind int) bool {
	return slices.Contains([]int{api.NTrue, api.NFalse, api.NEmpty, api.NFull, api.NAt, api.NNot, api.NEq, api.NNe, api.NLt, api.NLe, api.NGt, api.NGe, api.NAnd, api.NOr}, kind)
}

// narrow is a view narrowed by a guard that is so.
func (x *plain) narrow(v api.Facts, at int, so bool) api.Facts {
	if !v.Reached {
		return v
	}
	row, kids := x.p.Rows[at], x.kids[at]
	switch row.Kind {
	case api.NTrue, api.NFalse:
		if so == (row.Kind == api.NTrue) {
			return v
		}
		return api.Facts{}
	case api.NNot:
		return x.narrow(v, kids[0], !so)
	case api.NAnd, api.NOr:
		if so == (row.Kind == api.NAnd) {
			return x.narrow(x.narrow(v, kids[0], so), kids[1], so)
		}
		return x.join(x.narrow(v, kids[0], so), x.narrow(x.narrow(v, kids[0], !so), kids[1], so))
	}
	v = apart(v)
	switch most := 0; row.Kind {
	case api.NEmpty:
		v.Lens[row.N] = met(v.Lens[row.N], map[bool]api.Span{true: {}, false: {Lo: 1, Hi: x.c.Queues[row.N]}}[so])
	case api.NFull:
		most = x.c.Queues[row.N]
		v.Lens[row.N] = met(v.Lens[row.N], map[bool]api.Span{true: {Lo: most, Hi: most}, false: {Hi: most - 1}}[so])
	case api.NAt:
		for q := range v.At {
			v.At[q] = v.At[q] && so == (q == row.N)
		}
		v.Nowhere = v.Nowhere && !so
	default:
		if !isBool(x.p.Rows[kids[0]].Kind) {
			v = x.compared(v, row.Kind, kids[0], kids[1], so)
		}
	}
	return x.cut(v)
}

// compared narrows by a comparison, as =, /=, < or <=.
func (x *plain) compared(v api.Facts, kind, left, right int, so bool) api.Facts {
	if !so {
		kind = map[int]int{api.NEq: api.NNe, api.NNe: api.NEq, api.NLt: api.NGe, api.NGe: api.NLt, api.NGt: api.NLe, api.NLe: api.NGt}[kind]
	}
	if kind == api.NGt || kind == api.NGe {
		left, right = right, left
		kind = map[int]int{api.NGt: api.NLt, api.NGe: api.NLe}[kind]
	}
	a, b := x.span(v, left), x.span(v, right)
	switch kind {
	case api.NEq:
		v = x.to(v, left, met(a, b))
		v = x.to(v, right, met(a, b))
	case api.NLt:
		v = x.to(v, left, api.Span{Lo: -1<<30 - 1, Hi: b.Hi - 1})
		v = x.to(v, right, api.Span{Lo: a.Lo + 1, Hi: 1<<30 + 1})
	case api.NLe:
		v = x.to(v, left, api.Span{Lo: -1<<30 - 1, Hi: b.Hi})
		v = x.to(v, right, api.Span{Lo: a.Lo, Hi: 1<<30 + 1})
	case api.NNe:
		v = x.less(v, left, a, b)
		v = x.less(v, right, b, a)
		if a == b && a.Lo == a.Hi {
			return api.Facts{}
		}
	}
	return v
}

// less narrows a kid of the span a to a without b, if b is one number, and an end of a.
func (x *plain) less(v api.Facts, at int, a, b api.Span) api.Facts {
	if b.Lo != b.Hi {
		return v
	}
	if a.Lo == b.Lo {
		return x.to(v, at, api.Span{Lo: a.Lo + 1, Hi: a.Hi})
	}
	if a.Hi == b.Lo {
		return x.to(v, at, api.Span{Lo: a.Lo, Hi: a.Hi - 1})
	}
	return v
}

// judged judges an expression, or an item.
func (x *plain) judged(v api.Facts, at int) {
	row, kids := x.p.Rows[at], x.kids[at]
	switch row.Kind {
	case api.NAnd, api.NOr:
		x.judged(v, kids[0])
		if w := x.narrow(v, kids[0], row.Kind == api.NAnd); w.Reached {
			x.judged(w, kids[1])
		}
		return
	case api.NEndOf:
		if v.Lens[row.N].Lo == 0 {
			refused(api.ErrEmpty, at)
		}
	case api.NX:
		if v.Nowhere {
			refused(api.ErrWhere, at)
		}
	}
	for _, kid := range kids {
		x.judged(v, kid)
	}
}

func (x *plain) taken(v api.Facts, q int) api.Facts {
	v = apart(v)
	v.Lens[q] = api.Span{Lo: v.Lens[q].Lo - 1, Hi: v.Lens[q].Hi - 1}
	if !x.p.Queues[q].Ghost {
		v.Total = api.Span{Lo: v.Total.Lo - 1, Hi: v.Total.Hi - 1}
	}
	return v
}

func (x *plain) given(v api.Facts, q, at int) api.Facts {
	if v.Lens[q].Hi == x.c.Queues[q] {
		refused(api.ErrFull, at)
	}
	v = apart(v)
	v.Lens[q] = api.Span{Lo: v.Lens[q].Lo + 1, Hi: v.Lens[q].Hi + 1}
	if !x.p.Queues[q].Ghost {
		if v.Total.Hi == x.c.Size {
			refused(api.ErrFull, at)
		}
		v.Total = api.Span{Lo: v.Total.Lo + 1, Hi: v.Total.Hi + 1}
	}
	return v
}

// isAt is the view with x at a queue; -1: nowhere.
func isAt(v api.Facts, q int) api.Facts {
	v = apart(v)
	for i := range v.At {
		v.At[i] = i == q
	}
	v.Nowhere = q < 0
	return v
}

// goes is the view with x perhaps at another place, if it may be at q.
func goes(v api.Facts, q, to int) api.Facts {
	v = apart(v)
	if v.At[q] && to < 0 {
		v.Nowhere = true
	} else if v.At[q] {
		v.At[to] = true
	}
	return v
}

// where is the queue at which x must be.
func (x *plain) where(v api.Facts, at int) int {
	var list []int
	for q, is := range v.At {
		if is {
			list = append(list, q)
		}
	}
	if v.Nowhere || len(list) != 1 {
		refused(api.ErrWhere, at)
	}
	return list[0]
}

// target is the queue of an NPlace; -1: there is none.
func (x *plain) target(at int) int {
	if len(x.kids[at]) == 0 {
		return -1
	}
	return x.p.Rows[x.kids[at][0]].N
}

// done judges a doing, and tells what it leaves.
func (x *plain) done(v api.Facts, at int) api.Facts {
	if !v.Reached {
		return v
	}
	row, kids := x.p.Rows[at], x.kids[at]
	if row.Kind >= api.NIf && row.Kind <= api.NPass {
		x.told[at] = apart(x.join(x.told[at], v))
	}
	switch row.Kind {
	case api.NBlock:
		for _, kid := range kids {
			v = x.done(v, kid)
		}
		return v
	case api.NIf:
		x.judged(v, kids[0])
		yes, no := x.done(x.narrow(v, kids[0], true), kids[1]), x.narrow(v, kids[0], false)
		if len(kids) == 3 {
			no = x.done(no, kids[2])
		}
		return x.join(yes, no)
	case api.NLoop:
		return x.looped(v, at)
	case api.NSet:
		x.judged(v, kids[0])
		s, most := x.span(v, kids[0]), x.t.Vars[row.N]
		v = apart(v)
		v.Vars[row.N] = api.Span{Lo: min(max(s.Lo, most.Lo), most.Hi), Hi: min(max(s.Hi, most.Lo), most.Hi)}
		return v
	case api.NMark:
		x.judged(v, kids[0])
		x.judged(v, kids[1])
		return v
	case api.NCall:
		return x.done(v, x.p.Rules[row.N])
	case api.NPass:
		return v
	}
	return x.cut(x.carried(v, at))
}

func (x *plain) carried(v api.Facts, at int) api.Facts {
	row := x.p.Rows[at]
	switch row.Kind {
	case api.NInsert:
		if slices.Contains(v.At, true) {
			refused(api.ErrWhere, at)
		}
		return isAt(x.given(v, row.N, at), row.N)
	case api.NMove:
		return isAt(x.given(x.taken(v, x.where(v, at)), row.N, at), row.N)
	case api.NForget:
		q := x.where(v, at)
		if !x.p.Queues[q].Ghost {
			refused(api.ErrWhere, at)
		}
		return isAt(x.taken(v, q), -1)
	}
	if v.Lens[row.N].Lo == 0 {
		refused(api.ErrEmpty, at)
	}
	v = x.taken(v, row.N)
	to := x.target(at)
	if to >= 0 {
		v = x.given(v, to, at)
	}
	return goes(v, row.N, to)
}

// laid are a row and all of its own, with calls gone into.
func (x *plain) laid(at int) []int {
	list := []int{at}
	if x.p.Rows[at].Kind == api.NCall {
		list = append(list, x.laid(x.p.Rules[x.p.Rows[at].N])...)
	}
	for _, kid := range x.kids[at] {
		list = append(list, x.laid(kid)...)
	}
	return list
}

func (x *plain) looped(v api.Facts, at int) api.Facts {
	if x.t.Rounds[at] == 0 {
		return v
	}
	w, rows := apart(v), x.laid(x.kids[at][2])
	for _, i := range rows {
		switch row := x.p.Rows[i]; row.Kind {
		case api.NInsert, api.NMove, api.NForget:
			refused(api.ErrLoop, i)
		case api.NSet:
			w.Vars[row.N] = api.Span{Lo: x.t.Vars[row.N].Lo, Hi: x.t.Vars[row.N].Hi}
		case api.NShift, api.NEvict, api.NDrop:
			to := x.target(i)
			if to != row.N {
				w.Lens[row.N] = api.Span{Hi: x.c.Queues[row.N]}
			}
			if to >= 0 && to != row.N {
				w.Lens[to] = api.Span{Hi: x.c.Queues[to]}
			}
			if row.Kind == api.NEvict {
				w.Total.Lo = 0
			}
		}
	}
	for ahead := (api.Facts{}); !sameFact(w, ahead); {
		ahead = w
		for _, i := range rows {
			if kind := x.p.Rows[i].Kind; kind == api.NShift || kind == api.NEvict || kind == api.NDrop {
				w = goes(w, x.p.Rows[i].N, x.target(i))
			}
		}
	}
	w = x.cut(w)
	x.judged(w, x.kids[at][1])
	x.done(x.narrow(w, x.kids[at][1], true), x.kids[at][2])
	return w
}

// maker makes texts by chance, right in their types. What a doing asks for is mostly looked after by guards around it.
type maker struct {
	*rand.Rand
	care              float64 // how often a guard is there
	residents, ghosts []string
	vars, tags, rules []string
	inLoop            bool
}

func newMaker(seed int64, care float64) *maker {
	return &maker{Rand: rand.New(rand.NewSource(seed)), care: care}
}

func (m *maker) one(list ...string) string { return list[m.Intn(len(list))] }

func (m *maker) queues() []string { return slices.Concat(m.residents, m.ghosts) }

func (m *maker) queue() string { return m.one(m.queues()...) }

func (m *maker) end() string { return m.one("front", "back") }

// text is that of a policy.
func (m *maker) text() string {
	text := "policy p { "
	for i := range 1 + m.Intn(3) {
		m.residents = append(m.residents, fmt.Sprint("a", i))
		text += fmt.Sprintf("queue a%d resident; ", i)
	}
	for i := range m.Intn(3) {
		m.ghosts = append(m.ghosts, fmt.Sprint("g", i))
		text += fmt.Sprintf("queue g%d ghost; ", i)
	}
	for i := range m.Intn(3) {
		m.vars = append(m.vars, fmt.Sprint("v", i))
		text += fmt.Sprintf("var v%d = 0 in %s .. %s; ", i, m.one("0", "-3", "-1073741824"), m.one("0", "1", "9", "size", "1073741824"))
	}
	for i := range m.Intn(3) {
		m.tags = append(m.tags, fmt.Sprint("t", i))
		text += fmt.Sprintf("tag t%d in %d; ", i, 1+m.Intn(5))
	}
	for i := range m.Intn(3) {
		m.inLoop = m.Intn(2) == 0 // such a rule may be called in a loop
		text += fmt.Sprintf("rule r%d { %s} ", i, m.doings(2))
		m.rules = append(m.rules, fmt.Sprint("r", i))
		m.inLoop = false
	}
	var events []string
	for _, name := range m.residents {
		events = append(events, "on hit "+name)
	}
	for _, name := range m.ghosts {
		events = append(events, "on ghost "+name)
	}
	events = append(events, "on miss")
	m.Shuffle(len(events), func(i, k int) { events[i], events[k] = events[k], events[i] })
	for _, event := range events[m.Intn(len(events)):] {
		text += fmt.Sprintf("%s { %s} ", event, m.doings(3))
	}
	return text + "}"
}

func (m *maker) doings(depth int) string {
	text := ""
	for range 1 + m.Intn(4) {
		text += m.doing(depth)
	}
	return text
}

// guarded puts guards around a doing, one behind the other or in one another.
func (m *maker) guarded(doing string, needs ...string) string {
	needs = slices.DeleteFunc(needs, func(string) bool { return m.Float64() > m.care })
	if len(needs) == 0 {
		return doing
	}
	if m.Intn(3) == 0 {
		return fmt.Sprintf("if !(%s) { } else { %s} ", strings.Join(needs, " && "), doing)
	}
	if m.Intn(2) == 0 {
		return fmt.Sprintf("if %s { %s} ", strings.Join(needs, " && "), doing)
	}
	for _, need := range needs {
		doing = fmt.Sprintf("if %s { %s} ", need, doing)
	}
	return doing
}

// some says in one of many ways that a queue is not empty.
func (m *maker) some(q string) string {
	return fmt.Sprintf(m.one("!empty(%s)", "len(%s) > 0", "len(%s) >= 1", "0 < len(%s)", "len(%s) != 0", "!(len(%s) == 0)", "1 <= len(%s)", "len(%s) - 1 >= 0 && !empty(%[1]s)"), q)
}

// room says that a queue has room, when so many entries of residents are taken ahead of it.
func (m *maker) room(q string) []string {
	list := []string{fmt.Sprintf(m.one("!full(%s)", "len(%s) < cap(%[1]s)", "len(%s) != cap(%[1]s)", "cap(%s) > len(%[1]s)", "len(%s) + 1 <= cap(%[1]s) && !full(%[1]s)"), q)}
	if slices.Contains(m.residents, q) {
		list = append(list, m.one("total < size", "total != size", "size > total", "!(total >= size)", "total <= size - 1"))
	}
	return list
}

// nowhere says that x is at no queue.
func (m *maker) nowhere() []string {
	var list []string
	for _, name := range m.queues() {
		list = append(list, "!at("+name+")")
	}
	return list
}

func (m *maker) doing(depth int) string {
	n := 17
	if depth == 0 {
		n = 11
	}
	q := m.one(m.residents...)
	switch k := m.Intn(n); {
	case k <= 2 && m.inLoop && m.Intn(30) > 0:
		return m.doing(depth)
	case k == 0:
		to := m.queue()
		return m.guarded(fmt.Sprintf("insert %s %s; ", to, m.end()), append(m.nowhere(), m.room(to)...)...)
	case k == 1:
		from := m.queue()
		return m.guarded(fmt.Sprintf("move %s %s; ", q, m.end()), append(m.room(q), "at("+from+")")...)
	case k == 2 && len(m.ghosts) > 0:
		return m.guarded("forget; ", "at("+m.one(m.ghosts...)+")")
	case k == 3 && len(m.ghosts) > 0:
		g := m.one(m.ghosts...)
		return m.guarded(fmt.Sprintf("drop %s %s; ", g, m.end()), m.some(g))
	case k == 4:
		list := m.residents
		if len(m.ghosts) > 0 && m.Intn(2) == 0 {
			list = m.ghosts
		}
		from, to := m.one(list...), m.one(list...)
		needs := []string{m.some(from)}
		if from != to {
			needs = append(needs, m.room(to)[0])
		}
		return m.guarded(fmt.Sprintf("shift %s %s %s %s; ", from, m.end(), to, m.end()), needs...)
	case k == 5:
		return m.guarded(fmt.Sprintf("evict %s %s; ", q, m.end()), m.some(q))
	case k == 6 && len(m.ghosts) > 0:
		g := m.one(m.ghosts...)
		return m.guarded(fmt.Sprintf("evict %s %s to %s %s; ", q, m.end(), g, m.end()), append(m.room(g), m.some(q))...)
	case k == 7 && len(m.vars) > 0:
		return m.using(func() string { return fmt.Sprintf("set %s = %s; ", m.one(m.vars...), m.num(3)) })
	case k == 8 && len(m.tags) > 0:
		return m.using(func() string { return fmt.Sprintf("mark %s %s = %s; ", m.item(), m.one(m.tags...), m.num(2)) })
	case k == 9 && len(m.rules) > 0:
		return "call " + m.one(m.rules...) + "; "
	case k == 11 || k == 12:
		return m.loop(depth)
	case k == 13:
		return m.using(func() string {
			return fmt.Sprintf("if %s { %s} else if %s { %s} ", m.truth(3), m.doings(depth-1), m.truth(1), m.doings(depth-1))
		})
	case k == 14:
		return m.using(func() string {
			return fmt.Sprintf("if %s { { %s} } else { %s} ", m.truth(3), m.doings(depth-1), m.doings(depth-1))
		})
	case k == 15:
		return m.using(func() string { return fmt.Sprintf("if %s { %s} ", m.truth(2), m.doings(depth-1)) })
	}
	return "pass; "
}

func (m *maker) loop(depth int) string {
	was := m.inLoop
	m.inLoop = true
	defer func() { m.inLoop = was }()
	return m.using(func() string {
		return fmt.Sprintf("loop %s while %s { %s} ", m.one("0", "1", "3", "size", "2 * cap("+m.queue()+")"), m.truth(2), m.doings(depth-1))
	})
}

// using makes a doing, again and again, till it has no item, or puts guards around it.
func (m *maker) using(make func() string) string {
	text := make()
	for m.Float64() < m.care && strings.Count(text, "(x)")+strings.Count(text, "(front(")+strings.Count(text, "(back(") > 0 && m.Intn(2) == 0 {
		text = make()
	}
	var needs []string
	for _, name := range m.queues() {
		if strings.Contains(text, "front("+name+")") || strings.Contains(text, "back("+name+")") {
			needs = append(needs, m.some(name))
		}
	}
	if strings.Contains(text, "(x)") || strings.Contains(text, "mark x") {
		var places []string
		for _, name := range m.queues() {
			places = append(places, "at("+name+")")
		}
		needs = append(needs, "("+strings.Join(places, " || ")+")")
	}
	return m.guarded(text, needs...)
}

func (m *maker) item() string {
	return m.one("x", "front("+m.queue()+")", "back("+m.queue()+")")
}

// num is an expression of the type Num.
func (m *maker) num(depth int) string {
	if depth > 0 && m.Intn(3) > 0 {
		a, b := m.num(depth-1), m.num(depth-1)
		return fmt.Sprintf(m.one("(%s + %s)", "(%s - %s)", "(%s * %s)", "(%s / %s)", "min(%s, %s)", "max(%s, %s)", "(-%s + %s)"), a, b)
	}
	list := []string{"total", "size", fmt.Sprint(m.Intn(5)), fmt.Sprint(m.Intn(5)), "len(" + m.queue() + ")", "len(" + m.queue() + ")", "cap(" + m.queue() + ")"}
	list = append(list, m.vars...)
	if len(m.tags) > 0 && m.Intn(4) == 0 {
		list = append(list, m.one(m.tags...)+"("+m.item()+")")
	}
	if m.Intn(20) == 0 {
		list = append(list, "1073741824")
	}
	return m.one(list...)
}

// truth is an expression of the type Bool.
func (m *maker) truth(depth int) string {
	if depth > 0 && m.Intn(4) > 0 {
		switch m.Intn(8) {
		case 0:
			return "!" + m.truth(depth-1)
		case 1, 2:
			return fmt.Sprintf("(%s && %s)", m.truth(depth-1), m.truth(depth-1))
		case 3, 4:
			return fmt.Sprintf("(%s || %s)", m.truth(depth-1), m.truth(depth-1))
		case 5:
			return fmt.Sprintf("(%s %s %s)", m.truth(depth-1), m.one("==", "!="), m.truth(depth-1))
		}
		return fmt.Sprintf("(%s %s %s)", m.num(depth-1), m.one("==", "!=", "<", "<=", ">", ">="), m.num(depth-1))
	}
	if m.Intn(6) == 0 {
		return m.one("true", "false")
	}
	return m.one("empty", "full", "at") + "(" + m.queue() + ")"
}

// caps are capacities that fit.
func (m *maker) caps(queues []api.Queue) api.Caps {
	c := api.Caps{Size: 1 + m.Intn(6)}
	if m.Intn(10) == 0 {
		c.Size = 1 << 20
	}
	for _, queue := range queues {
		most := c.Size
		if queue.Ghost {
			most = 4
		}
		c.Queues = append(c.Queues, most-m.Intn(min(most, 3)))
	}
	return c
}
