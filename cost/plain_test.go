package cost_test

import (
	"fmt"
	"math/big"
	"math/rand"
	"strings"

	"winnow/api"
	"winnow/gram"
	"winnow/names"
)

// plain is the chapter read word by word, with numbers that have no end: these are cut at MaxSum where they are told.
type plain struct {
	p      api.Policy
	rounds []int
	known  map[int]*big.Int
}

func newPlain(p api.Policy, rounds []int) *plain {
	return &plain{p, rounds, map[int]*big.Int{}}
}

// bound is P1002's.
func (x *plain) bound(at int) *big.Int {
	if x.known[at] == nil {
		x.known[at] = x.find(at)
	}
	return x.known[at]
}

func (x *plain) find(at int) *big.Int {
	row, kids := x.p.Rows[at], gram.Kids(x.p.Rows, at)
	all := big.NewInt(1)
	switch row.Kind {
	case api.NPlace:
		return new(big.Int)
	case api.NCall:
		return all.Add(all, x.bound(x.p.Rules[row.N]))
	case api.NLoop:
		round := new(big.Int).Add(x.bound(kids[1]), x.bound(kids[2]))
		return all.Add(all, round.Mul(round, big.NewInt(int64(x.rounds[at]))))
	case api.NIf:
		greater := x.bound(kids[1])
		if len(kids) == 3 && x.bound(kids[2]).Cmp(greater) > 0 {
			greater = x.bound(kids[2])
		}
		all.Add(all, x.bound(kids[0]))
		return all.Add(all, greater)
	}
	for _, kid := range kids {
		all.Add(all, x.bound(kid))
	}
	return all
}

// told is P1003's, of a policy and rounds that may be.
func (x *plain) told() (api.Costs, api.Fault) {
	costs := api.Costs{On: make([]int, len(x.p.Queues))}
	for _, at := range gram.Kids(x.p.Rows, 0) {
		row := x.p.Rows[at]
		if row.Kind < api.NHit {
			continue
		}
		n := x.bound(at + 1)
		if n.Cmp(big.NewInt(api.MaxCost)) > 0 {
			return api.Costs{}, api.Fault{Err: api.ErrCost, At: at}
		}
		if row.Kind == api.NMiss {
			costs.Miss = int(n.Int64())
		} else {
			costs.On[row.N] = int(n.Int64())
		}
	}
	return costs, api.Fault{}
}

// cut is a number from 0 to MaxSum.
func cut(n *big.Int) int {
	if most := big.NewInt(api.MaxSum); n.Cmp(most) > 0 {
		n = most
	}
	return int(n.Int64())
}

// plainSum and plainTimes are P1001's.
func plainSum(list []int) int {
	sum := new(big.Int)
	for _, n := range list {
		sum.Add(sum, big.NewInt(int64(max(n, 0))))
	}
	return cut(sum)
}

func plainTimes(list []int) int {
	product := big.NewInt(1)
	for _, n := range list {
		product.Mul(product, big.NewInt(int64(max(n, 0))))
	}
	return cut(product)
}

// maker writes texts by chance. (Types are no matter: Bound asks for none.)
type maker struct {
	*rand.Rand
	rules int
}

func newMaker(seed int64) *maker { return &maker{Rand: rand.New(rand.NewSource(seed))} }

func (m *maker) one(list ...string) string { return list[m.Intn(len(list))] }

func (m *maker) queue() string { return m.one("a", "b", "g", "h") }

func (m *maker) place() string { return m.queue() + " " + m.one("front", "back") }

func (m *maker) item() string {
	if m.Intn(3) == 0 {
		return "x"
	}
	return fmt.Sprintf("%s(%s)", m.one("front", "back"), m.queue())
}

// expression is one with at most so many below one another.
func (m *maker) expression(deep int) string {
	if deep == 0 || m.Intn(4) == 0 {
		return m.one("7", "0", "v", "w", "true", "false", "size", "total", m.one("len", "cap", "empty", "full", "at")+"("+m.queue()+")", m.one("t", "u")+"("+m.item()+")")
	}
	first, second := m.expression(deep-1), m.expression(m.Intn(deep))
	switch m.Intn(5) {
	case 0:
		return m.one("-", "!") + "(" + first + ")"
	case 1:
		return fmt.Sprintf("%s(%s, %s)", m.one("min", "max"), second, first)
	case 2:
		return fmt.Sprintf("(%s) %s (%s)", second, m.one("*", "/", "+", "-", "==", "!=", "<", "<=", ">", ">="), first)
	}
	return fmt.Sprintf("(%s) %s (%s)", first, m.one("&&", "||", "+"), second)
}

func (m *maker) block(deep int) string {
	var list []string
	for range m.Intn(4) {
		list = append(list, m.doing(deep))
	}
	return "{ " + strings.Join(list, " ") + " }"
}

func (m *maker) choice(deep int) string {
	text := fmt.Sprintf("if %s %s", m.expression(2), m.block(deep))
	switch m.Intn(3) {
	case 0:
		return text + " else " + m.block(deep)
	case 1:
		return text + " else " + m.choice(deep)
	}
	return text
}

func (m *maker) doing(deep int) string {
	if deep > 0 {
		switch m.Intn(6) {
		case 0:
			return m.block(deep - 1)
		case 1, 2:
			return m.choice(deep - 1)
		case 3:
			return fmt.Sprintf("loop %s while %s %s", m.expression(2), m.expression(2), m.block(deep-1))
		}
	}
	if m.rules > 0 && m.Intn(6) == 0 {
		return fmt.Sprintf("call r%d;", m.Intn(m.rules))
	}
	switch m.Intn(5) {
	case 0:
		return fmt.Sprintf("set %s = %s;", m.one("v", "w"), m.expression(3))
	case 1:
		return fmt.Sprintf("mark %s %s = %s;", m.item(), m.one("t", "u"), m.expression(3))
	case 2:
		return m.one("insert ", "move ", "drop ") + m.place() + ";"
	case 3:
		return m.one("evict "+m.place(), "evict "+m.place()+" to "+m.place(), "shift "+m.place()+" "+m.place()) + ";"
	}
	return m.one("pass;", "forget;")
}

// text has blocks with at most so many below one another.
func (m *maker) text(deep int) string {
	text := "policy p { queue a resident; queue g ghost; var v = 0 in 0 .. 9; queue b resident; tag t in 3; tag u in 1; queue h ghost; var w = 1 in -3 .. size / 2; require size > 1; "
	for m.rules = 0; m.Intn(4) > 0 && m.rules < 6; m.rules++ {
		text += fmt.Sprintf("rule r%d %s ", m.rules, m.block(deep))
	}
	events := []string{"hit a", "ghost g", "hit b", "ghost h", "miss"}
	m.Shuffle(len(events), func(i, j int) { events[i], events[j] = events[j], events[i] })
	for _, event := range events[:m.Intn(len(events)+1)] {
		text += fmt.Sprintf("on %s %s ", event, m.block(deep))
	}
	return text + "}"
}

// policy is the first one by chance that isn't too large, with its text.
func (m *maker) policy(deep int) (api.Policy, string) {
	for {
		text := m.text(deep)
		rows, _, fault := gram.Parse([]byte(text))
		if fault != (api.Fault{}) {
			panic(fmt.Sprintf("%s: %v", text, fault))
		}
		p, fault := names.Resolve(rows)
		if fault == (api.Fault{}) {
			return p, text
		}
		if fault.Err != api.ErrLarge {
			panic(fmt.Sprintf("%s: %v", text, fault))
		}
	}
}

// roundsOf has numbers by chance, of all rows: at most so many.
func (m *maker) roundsOf(p api.Policy, most int) []int {
	list := make([]int, len(p.Rows))
	for at := range list {
		list[at] = []int{0, 1, 2, most, m.Intn(most + 1), m.Intn(most + 1)}[m.Intn(6)]
	}
	return list
}
