package lab_test

import (
	"fmt"
	"math/rand"
	"slices"
	"strings"

	"winnow/api"
	"winnow/gram"
	"winnow/names"
)

// maker writes policies by chance, that are right in their types.
type maker struct {
	*rand.Rand
	care              float64 // how often a guard is there
	residents, ghosts []string
	vars, tags, rules []string
	inLoop            bool
}

func newMaker(seed int64, care float64) *maker {
	return &maker{Rand: rand.New(rand.NewSource(seed)), care: care}
}

func (m *maker) one(list ...string) string { return list[m.Intn(len(list))] }

func (m *maker) queues() []string { return slices.Concat(m.residents, m.ghosts) }

func (m *maker) queue() string { return m.one(m.queues()...) }

func (m *maker) end() string { return m.one("front", "back") }

// text is that of a policy. Its miss most often brings x in, so that there is something to do.
func (m *maker) text() string {
	text := "policy p { "
	for i := range 1 + m.Intn(3) {
		m.residents = append(m.residents, fmt.Sprint("a", i))
		text += fmt.Sprintf("queue a%d resident; ", i)
	}
	for i := range m.Intn(3) {
		m.ghosts = append(m.ghosts, fmt.Sprint("g", i))
		text += fmt.Sprintf("queue g%d ghost; ", i)
	}
	for i := range m.Intn(3) {
		m.vars = append(m.vars, fmt.Sprint("v", i))
		text += fmt.Sprintf("var v%d = 0 in %s .. %s; ", i, m.one("0", "-3", "-1073741824"), m.one("0", "1", "9", "size", "1073741824"))
	}
	for i := range m.Intn(3) {
		m.tags = append(m.tags, fmt.Sprint("t", i))
		text += fmt.Sprintf("tag t%d in %d; ", i, 1+m.Intn(5))
	}
	for i := range m.Intn(4) {
		m.inLoop = m.Intn(2) == 0 // such a rule may be called in a loop
		text += fmt.Sprintf("rule r%d { %s} ", i, m.doings(2))
		m.rules = append(m.rules, fmt.Sprint("r", i))
		m.inLoop = false
	}
	return text + m.events() + "}"
}

func (m *maker) events() string {
	var events []string
	for _, name := range m.residents {
		events = append(events, "on hit "+name)
	}
	for _, name := range m.ghosts {
		events = append(events, "on ghost "+name)
	}
	m.Shuffle(len(events), func(i, k int) { events[i], events[k] = events[k], events[i] })
	text := ""
	for _, event := range events[m.Intn(len(events)+1):] {
		text += fmt.Sprintf("%s { %s} ", event, m.doings(3))
	}
	inner := ""
	if m.Intn(8) > 0 {
		inner = m.insert()
	}
	switch m.Intn(6) {
	case 0:
		return text
	case 1:
		return fmt.Sprintf("on miss { %s%s} %s", m.doings(3), inner, text)
	case 2:
		return text + fmt.Sprintf("on miss { %s%s} ", inner, m.doings(3))
	}
	return text + fmt.Sprintf("on miss { %s} ", m.insert())
}

func (m *maker) insert() string {
	to := m.queue()
	return m.guarded(fmt.Sprintf("insert %s %s; ", to, m.end()), append(m.nowhere(), m.room(to)...)...)
}

func (m *maker) doings(depth int) string {
	text := ""
	for range 1 + m.Intn(4) {
		text += m.doing(depth)
	}
	return text
}

// guarded puts guards around a doing, one behind the other or in one another.
func (m *maker) guarded(doing string, needs ...string) string {
	needs = slices.DeleteFunc(needs, func(string) bool { return m.Float64() > m.care })
	if len(needs) == 0 {
		return doing
	}
	if m.Intn(3) == 0 {
		return fmt.Sprintf("if !(%s) { } else { %s} ", strings.Join(needs, " && "), doing)
	}
	if m.Intn(2) == 0 {
		return fmt.Sprintf("if %s { %s} ", strings.Join(needs, " && "), doing)
	}
	for _, need := range needs {
		doing = fmt.Sprintf("if %s { %s} ", need, doing)
	}
	return doing
}

func (m *maker) some(q string) string {
	return fmt.Sprintf(m.one("!empty(%s)", "len(%s) > 0", "0 < len(%s)", "len(%s) != 0", "!(len(%s) == 0)"), q)
}

func (m *maker) room(q string) []string {
	list := []string{fmt.Sprintf(m.one("!full(%s)", "len(%s) < cap(%[1]s)", "len(%s) != cap(%[1]s)"), q)}
	if slices.Contains(m.residents, q) {
		list = append(list, m.one("total < size", "total != size", "size > total", "!(total >= size)"))
	}
	return list
}

// nowhere says that x is at no queue.
func (m *maker) nowhere() []string {
	var list []string
	for _, name := range m.queues() {
		list = append(list, "!at("+name+")")
	}
	return list
}

func (m *maker) doing(depth int) string {
	n := 17
	if depth == 0 {
		n = 11
	}
	q := m.one(m.residents...)
	switch k := m.Intn(n); {
	case k <= 2 && m.inLoop && m.Float64() < m.care && m.Intn(30) > 0: // the judgment takes none of these in a loop
		return m.doing(depth)
	case k == 0:
		return m.insert()
	case k == 1:
		return m.guarded(fmt.Sprintf("move %s %s; ", q, m.end()), append(m.room(q), "at("+m.queue()+")")...)
	case k == 2 && len(m.ghosts) > 0:
		return m.guarded("forget; ", "at("+m.one(m.ghosts...)+")")
	case k == 3 && len(m.ghosts) > 0:
		g := m.one(m.ghosts...)
		return m.guarded(fmt.Sprintf("drop %s %s; ", g, m.end()), m.some(g))
	case k == 4:
		return m.shift()
	case k == 5:
		return m.guarded(fmt.Sprintf("evict %s %s; ", q, m.end()), m.some(q))
	case k == 6 && len(m.ghosts) > 0:
		g := m.one(m.ghosts...)
		return m.guarded(fmt.Sprintf("evict %s %s to %s %s; ", q, m.end(), g, m.end()), append(m.room(g), m.some(q))...)
	case k == 7 && len(m.vars) > 0:
		return m.using(func() string { return fmt.Sprintf("set %s = %s; ", m.one(m.vars...), m.num(3)) })
	case k == 8 && len(m.tags) > 0:
		return m.using(func() string {
			text := ""
			for _, item := range []string{"x", m.item(), m.item()}[m.Intn(3):] {
				text += fmt.Sprintf("mark %s %s = %s; ", item, m.one(m.tags...), m.num(2))
			}
			return text
		})
	case k == 9 && len(m.rules) > 0:
		return "call " + m.one(m.rules...) + "; "
	case k >= 11:
		return m.branch(k, depth)
	}
	return "pass; "
}

func (m *maker) shift() string {
	list := m.residents
	if len(m.ghosts) > 0 && m.Intn(2) == 0 {
		list = m.ghosts
	}
	from, to := m.one(list...), m.one(list...)
	needs := []string{m.some(from)}
	if from != to {
		needs = append(needs, m.room(to)[0])
	}
	return m.guarded(fmt.Sprintf("shift %s %s %s %s; ", from, m.end(), to, m.end()), needs...)
}

// branch is a loop, or one of the kinds of ifs.
func (m *maker) branch(k, depth int) string {
	if k <= 12 {
		was := m.inLoop
		m.inLoop = true
		defer func() { m.inLoop = was }()
		return m.using(func() string {
			return fmt.Sprintf("loop %s while %s { %s} ", m.one("0", "1", "3", "size", "2 * cap("+m.queue()+")"), m.truth(2), m.doings(depth-1))
		})
	}
	return m.using(func() string {
		text := fmt.Sprintf("if %s { %s} ", m.truth(3), m.doings(depth-1))
		switch k {
		case 13:
			return text + fmt.Sprintf("else if %s { %s} ", m.truth(1), m.doings(depth-1))
		case 14:
			return text + fmt.Sprintf("else { { %s} %s} ", m.doings(depth-1), m.doing(0))
		}
		return text
	})
}

// using makes a doing, again and again, till it has no item, or puts guards around it.
func (m *maker) using(make func() string) string {
	text := make()
	for m.Float64() < m.care && strings.Count(text, "(x)")+strings.Count(text, "(front(")+strings.Count(text, "(back(") > 0 && m.Intn(2) == 0 {
		text = make()
	}
	var needs []string
	for _, name := range m.queues() {
		if strings.Contains(text, "front("+name+")") || strings.Contains(text, "back("+name+")") {
			needs = append(needs, m.some(name))
		}
	}
	if strings.Contains(text, "(x)") || strings.Contains(text, "mark x") {
		var places []string
		for _, name := range m.queues() {
			places = append(places, "at("+name+")")
		}
		needs = append(needs, "("+strings.Join(places, " || ")+")")
	}
	return m.guarded(text, needs...)
}

func (m *maker) item() string {
	return m.one("x", "front("+m.queue()+")", "back("+m.queue()+")")
}

// num is an expression of the type Num.
func (m *maker) num(depth int) string {
	if depth > 0 && m.Intn(3) > 0 {
		a, b := m.num(depth-1), m.num(depth-1)
		return fmt.Sprintf(m.one("(%s + %s)", "(%s - %s)", "(%s * %s)", "(%s / %s)", "min(%s, %s)", "max(%s, %s)", "(-%s + %s)"), a, b)
	}
	list := []string{"total", "size", fmt.Sprint(m.Intn(5)), fmt.Sprint(m.Intn(5)), "len(" + m.queue() + ")", "len(" + m.queue() + ")", "cap(" + m.queue() + ")"}
	list = append(list, m.vars...)
	if len(m.tags) > 0 && m.Intn(4) == 0 {
		item := m.item()
		for _, name := range m.tags {
			list = append(list, name+"("+item+")", name+"("+item+")")
		}
	}
	if m.Intn(8) == 0 {
		list = append(list, "1073741824", "1073741824")
	}
	return m.one(list...)
}

// truth is an expression of the type Bool.
func (m *maker) truth(depth int) string {
	if depth > 0 && m.Intn(4) > 0 {
		switch m.Intn(8) {
		case 0:
			return "!" + m.truth(depth-1)
		case 1, 2:
			return fmt.Sprintf("(%s && %s)", m.truth(depth-1), m.truth(depth-1))
		case 3, 4:
			return fmt.Sprintf("(%s || %s)", m.truth(depth-1), m.truth(depth-1))
		case 5:
			return fmt.Sprintf("(%s %s %s)", m.truth(depth-1), m.one("==", "!="), m.truth(depth-1))
		}
		return fmt.Sprintf("(%s %s %s)", m.num(depth-1), m.one("==", "!=", "<", "<=", ">", ">="), m.num(depth-1))
	}
	if m.Intn(6) == 0 {
		return m.one("true", "false")
	}
	return m.one("empty", "full", "at") + "(" + m.queue() + ")"
}

// caps are small capacities that fit.
func (m *maker) caps(queues []api.Queue) api.Caps {
	c := api.Caps{Size: 1 + m.Intn(6)}
	for _, queue := range queues {
		most := c.Size
		if queue.Ghost {
			most = 4
		}
		c.Queues = append(c.Queues, most-m.Intn(min(most, 3)))
	}
	return c
}

// policy is one by chance, with its text.
func (m *maker) policy() (api.Policy, string) {
	for {
		text := m.text()
		rows, _, fault := gram.Parse([]byte(text))
		if fault != (api.Fault{}) {
			panic(fmt.Sprintf("%s: %v", text, fault))
		}
		p, fault := names.Resolve(rows)
		if fault == (api.Fault{}) {
			return p, text
		}
		if fault.Err != api.ErrLarge {
			panic(fmt.Sprintf("%s: %v", text, fault))
		}
		*m = maker{Rand: m.Rand, care: m.care}
	}
}
