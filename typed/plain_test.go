package typed_test

import (
	"fmt"
	"math/big"
	"math/rand"
	"slices"

	"winnow/api"
	"winnow/typed"
)

// The chapter's words, kind by kind.
var (
	ofNum = []int{
		api.NNum, api.NVarOf, api.NLen, api.NCap, api.NSize, api.NTotal, api.NTagOf, api.NMin, api.NMax, api.NNeg, api.NMul, api.NDiv, api.NAdd, api.NSub,
	}
	ofBool = []int{
		api.NTrue, api.NFalse, api.NEmpty, api.NFull, api.NAt, api.NNot, api.NEq, api.NNe, api.NLt, api.NLe, api.NGt, api.NGe, api.NAnd, api.NOr,
	}
	asksNum = []int{
		api.NVar, api.NTag, api.NSet, api.NNeg, api.NMin, api.NMax, api.NMul, api.NDiv, api.NAdd, api.NSub, api.NLt, api.NLe, api.NGt, api.NGe,
	}
	asksBool    = []int{api.NRequire, api.NNot, api.NAnd, api.NOr}
	notConstant = []int{api.NVarOf, api.NLen, api.NTotal, api.NEmpty, api.NFull, api.NAt, api.NTagOf}
)

// plain is a policy's tree with the row above each row, and which kid of it a row is.
type plain struct {
	p    api.Policy
	over []int
	nth  []int
	kids [][]int
}

func newPlain(p api.Policy) *plain {
	n := len(p.Rows)
	x := &plain{p: p, over: make([]int, n), nth: make([]int, n), kids: make([][]int, n)}
	x.hang(0, -1, 0)
	return x
}

func (x *plain) hang(at, over, nth int) int {
	x.over[at], x.nth[at] = over, nth
	next := at + 1
	for n := range x.p.Rows[at].Kids {
		x.kids[at] = append(x.kids[at], next)
		next = x.hang(next, at, n)
	}
	return next
}

func typeOf(kind int) int {
	switch {
	case slices.Contains(ofNum, kind):
		return typed.Num
	case slices.Contains(ofBool, kind):
		return typed.Bool
	}
	return typed.None
}

// asked is the type that is asked for of a row.
func (x *plain) asked(at int) int {
	over := x.over[at]
	if over < 0 {
		return typed.None
	}
	kind, nth := x.p.Rows[over].Kind, x.nth[at]
	switch {
	case slices.Contains(asksNum, kind), kind == api.NMark && nth == 1, kind == api.NLoop && nth == 0:
		return typed.Num
	case slices.Contains(asksBool, kind), kind == api.NIf && nth == 0, kind == api.NLoop && nth == 1:
		return typed.Bool
	case (kind == api.NEq || kind == api.NNe) && nth == 1:
		return typeOf(x.p.Rows[x.kids[over][0]].Kind)
	}
	return typed.None
}

// mustBeConstant looks at all rows above.
func (x *plain) mustBeConstant(at int) bool {
	for ; x.over[at] >= 0; at = x.over[at] {
		switch x.p.Rows[x.over[at]].Kind {
		case api.NVar, api.NTag, api.NRequire:
			return true
		case api.NLoop:
			if x.nth[at] == 0 {
				return true
			}
		}
	}
	return false
}

// isGhost is asked by a queue's name.
func (x *plain) isGhost(at int) bool {
	for _, row := range x.p.Rows {
		if row.Name == x.p.Rows[at].Name && row.Kind == api.NGhostQueue {
			return true
		}
	}
	return false
}

func (x *plain) isOther(at int) bool {
	switch x.p.Rows[at].Kind {
	case api.NHit, api.NMove, api.NEvict:
		return x.isGhost(at)
	case api.NGhost, api.NDrop:
		return !x.isGhost(at)
	case api.NPlace:
		over := x.over[at]
		if x.p.Rows[over].Kind == api.NEvict {
			return !x.isGhost(at)
		}
		return x.isGhost(at) != x.isGhost(over)
	}
	return false
}

// typesFault is P801's.
func (x *plain) typesFault() api.Fault {
	for at, row := range x.p.Rows {
		asked := x.asked(at)
		if asked != typed.None && asked != typeOf(row.Kind) {
			return api.Fault{Err: api.ErrType, At: at}
		}
		if x.mustBeConstant(at) && slices.Contains(notConstant, row.Kind) {
			return api.Fault{Err: api.ErrConst, At: at}
		}
		if x.isOther(at) {
			return api.Fault{Err: api.ErrKind, At: at}
		}
	}
	return api.Fault{}
}

// isConstant looks at a row and all of its own.
func (x *plain) isConstant(at int) bool {
	if slices.Contains(notConstant, x.p.Rows[at].Kind) {
		return false
	}
	for _, kid := range x.kids[at] {
		if !x.isConstant(kid) {
			return false
		}
	}
	return true
}

// fits is W4, by numbers that have no end.
func fits(queues []api.Queue, c api.Caps) bool {
	if c.Size < 1 || c.Size > 1<<20 || len(c.Queues) != len(queues) {
		return false
	}
	residents, all := new(big.Int), new(big.Int)
	for i, n := range c.Queues {
		if n < 1 || n > 1<<20 || !queues[i].Ghost && n > c.Size {
			return false
		}
		if queues[i].Ghost {
			all.Add(all, big.NewInt(int64(n)))
		} else {
			residents.Add(residents, big.NewInt(int64(n)))
		}
	}
	if residents.Cmp(big.NewInt(int64(c.Size))) > 0 {
		residents.SetInt64(int64(c.Size))
	}
	return all.Add(all, residents).Cmp(big.NewInt(1<<22)) <= 0
}

// clamped is W3's.
func clamped(n *big.Int) *big.Int {
	most := big.NewInt(1 << 30)
	least := new(big.Int).Neg(most)
	switch {
	case n.Cmp(most) > 0:
		return most
	case n.Cmp(least) < 0:
		return least
	}
	return n
}

// floored is a divided by b, to the floor; 0, if b is.
func floored(a, b *big.Int) *big.Int {
	if b.Sign() == 0 {
		return new(big.Int)
	}
	if b.Sign() < 0 {
		a, b = new(big.Int).Neg(a), new(big.Int).Neg(b)
	}
	// big's Div is to the floor, where the divisor is above 0.
	return new(big.Int).Div(a, b)
}

// value is what a constant comes to.
func (x *plain) value(c api.Caps, at int) *big.Int {
	row := x.p.Rows[at]
	var of []*big.Int
	for _, kid := range x.kids[at] {
		of = append(of, x.value(c, kid))
	}
	truth := func(is bool) *big.Int {
		if is {
			return big.NewInt(1)
		}
		return big.NewInt(0)
	}
	switch row.Kind {
	case api.NNum:
		return big.NewInt(int64(row.N))
	case api.NCap:
		for i, queue := range x.p.Queues {
			if queue.Name == row.Name {
				return big.NewInt(int64(c.Queues[i]))
			}
		}
	case api.NSize:
		return big.NewInt(int64(c.Size))
	case api.NTrue, api.NFalse:
		return truth(row.Kind == api.NTrue)
	case api.NNeg:
		return clamped(new(big.Int).Neg(of[0]))
	case api.NNot:
		return truth(of[0].Sign() == 0)
	case api.NMul:
		return clamped(new(big.Int).Mul(of[0], of[1]))
	case api.NDiv:
		return clamped(floored(of[0], of[1]))
	case api.NAdd:
		return clamped(new(big.Int).Add(of[0], of[1]))
	case api.NSub:
		return clamped(new(big.Int).Sub(of[0], of[1]))
	case api.NAnd:
		return truth(of[0].Sign() != 0 && of[1].Sign() != 0)
	case api.NOr:
		return truth(of[0].Sign() != 0 || of[1].Sign() != 0)
	}
	order := of[0].Cmp(of[1])
	switch row.Kind {
	case api.NMin:
		return of[map[bool]int{true: 1}[order > 0]]
	case api.NMax:
		return of[map[bool]int{true: 1}[order < 0]]
	}
	return truth(map[int]bool{api.NEq: order == 0, api.NNe: order != 0, api.NLt: order < 0, api.NLe: order <= 0, api.NGt: order > 0, api.NGe: order >= 0}[row.Kind])
}

// number is a kid's, as an int.
func (x *plain) number(c api.Caps, at, kid int) int { return int(x.value(c, x.kids[at][kid]).Int64()) }

// check is P805, behind Types and Fit.
func (x *plain) check(c api.Caps) (api.Typed, api.Fault) {
	told := api.Typed{}
	for at, row := range x.p.Rows {
		rounds := 0
		err := api.OK
		switch row.Kind {
		case api.NVar:
			v := api.Var{Init: x.number(c, at, 0), Lo: x.number(c, at, 1), Hi: x.number(c, at, 2)}
			told.Vars = append(told.Vars, v)
			if !(v.Lo <= v.Init && v.Init <= v.Hi) {
				err = api.ErrRange
			}
		case api.NTag:
			n := x.number(c, at, 0)
			told.Tags = append(told.Tags, n)
			if !(1 <= n && n <= 255) {
				err = api.ErrRange
			}
		case api.NRequire:
			if x.number(c, at, 0) != 1 {
				err = api.ErrRequire
			}
		case api.NLoop:
			rounds = x.number(c, at, 0)
			if !(0 <= rounds && rounds <= 1<<22) {
				err = api.ErrRange
			}
		}
		if err != api.OK {
			return api.Typed{}, api.Fault{Err: err, At: at}
		}
		told.Rounds = append(told.Rounds, rounds)
	}
	return told, api.Fault{}
}

// maker makes texts by chance that are mostly of their types.
type maker struct {
	*rand.Rand
	slips             float64 // how often something is of another type or kind, or no constant
	loose             float64 // how often a number may be out of its range, capacities may not fit
	residents, ghosts []string
	vars, tags, rules []string
	constant          bool
}

func newMaker(seed int64, slips, loose float64) *maker {
	return &maker{Rand: rand.New(rand.NewSource(seed)), slips: slips, loose: loose}
}

func (m *maker) slip() bool { return m.Float64() < m.slips }

func (m *maker) isLoose() bool { return m.Float64() < m.loose }

func (m *maker) one(list []string) string { return list[m.Intn(len(list))] }

// queue is one of a kind, mostly.
func (m *maker) queue(ghost bool) string {
	if ghost != m.slip() {
		return m.one(m.ghosts)
	}
	return m.one(m.residents)
}

func (m *maker) anyQueue() string { return m.queue(m.Intn(2) == 0) }

func (m *maker) end() string { return m.one([]string{"front", "back"}) }

// text is that of a policy.
func (m *maker) text() string {
	text := "policy p { queue a resident; queue b ghost; "
	m.residents, m.ghosts = []string{"a"}, []string{"b"}
	for i := range m.Intn(3) {
		if m.Intn(2) == 0 {
			m.residents = append(m.residents, fmt.Sprint("q", i))
			text += fmt.Sprintf("queue q%d resident; ", i)
		} else {
			m.ghosts = append(m.ghosts, fmt.Sprint("q", i))
			text += fmt.Sprintf("queue q%d ghost; ", i)
		}
	}
	for i := range 1 + m.Intn(6) {
		text += m.decl(i)
	}
	for _, name := range m.residents {
		if m.Intn(3) == 0 {
			text += fmt.Sprintf("on %s %s { %s} ", m.oneOf("hit", "ghost"), name, m.doings(2))
		}
	}
	for _, name := range m.ghosts {
		if m.Intn(3) == 0 {
			text += fmt.Sprintf("on %s %s { %s} ", m.oneOf("ghost", "hit"), name, m.doings(2))
		}
	}
	return text + "on miss { " + m.doings(3) + "} }"
}

// oneOf is the first, but for slips.
func (m *maker) oneOf(right, wrong string) string {
	if m.slip() {
		return wrong
	}
	return right
}

// steady makes something of which no row may hang on the state, but for slips.
func (m *maker) steady(make func(depth int) string, depth int) string {
	m.constant = true
	defer func() { m.constant = false }()
	return make(depth)
}

// within is a constant that is mostly in a range.
func (m *maker) within(lo, hi int) string {
	text := m.steady(m.num, m.Intn(4))
	if m.isLoose() {
		return text
	}
	return fmt.Sprintf("min(max(%d, %s), %d)", lo, text, hi)
}

func (m *maker) decl(i int) string {
	switch m.Intn(5) {
	case 0, 1:
		text := fmt.Sprintf("var v%d = %s in %s .. %s; ", i, m.within(0, 9), m.within(0, 0), m.within(9, 20))
		if m.Intn(3) == 0 {
			text = fmt.Sprintf("var v%d = %s in -1073741824 .. 1073741824; ", i, m.steady(m.num, 3))
		}
		m.vars = append(m.vars, fmt.Sprint("v", i))
		return text
	case 2:
		if len(m.tags) == 4 {
			return ""
		}
		text := fmt.Sprintf("tag t%d in %s; ", i, m.within(1, 255))
		m.tags = append(m.tags, fmt.Sprint("t", i))
		return text
	case 3:
		text := m.steady(m.truth, m.Intn(4))
		if !m.isLoose() {
			return "require " + text + " || true; "
		}
		return "require " + text + "; "
	}
	text := fmt.Sprintf("rule r%d { %s} ", i, m.doings(2))
	m.rules = append(m.rules, fmt.Sprint("r", i))
	return text
}

func (m *maker) doings(depth int) string {
	text := ""
	for range m.Intn(4) {
		text += m.doing(depth)
	}
	return text
}

func (m *maker) doing(depth int) string {
	n := 13
	if depth == 0 {
		n = 9
	}
	switch m.Intn(n) {
	case 0:
		return fmt.Sprintf("insert %s %s; ", m.anyQueue(), m.end())
	case 1:
		return fmt.Sprintf("move %s %s; ", m.queue(false), m.end())
	case 2:
		return fmt.Sprintf("drop %s %s; ", m.queue(true), m.end())
	case 3:
		ghost := m.Intn(2) == 0
		return fmt.Sprintf("shift %s %s %s %s; ", m.queue(ghost), m.end(), m.queue(ghost), m.end())
	case 4:
		return fmt.Sprintf("evict %s %s to %s %s; ", m.queue(false), m.end(), m.queue(true), m.end())
	case 5:
		return fmt.Sprintf("evict %s %s; ", m.queue(false), m.end())
	case 6:
		return m.one(append([]string{"forget; ", "pass; "}, m.calls()...))
	case 7:
		if len(m.vars) > 0 {
			return fmt.Sprintf("set %s = %s; ", m.one(m.vars), m.num(3))
		}
	case 8:
		if len(m.tags) > 0 {
			return fmt.Sprintf("mark %s %s = %s; ", m.item(), m.one(m.tags), m.num(3))
		}
	case 9, 10:
		return fmt.Sprintf("loop %s while %s { %s} ", m.within(0, 1<<22), m.truth(2), m.doings(depth-1))
	case 11:
		return fmt.Sprintf("if %s { %s} else if %s { %s} ", m.truth(3), m.doings(depth-1), m.truth(1), m.doings(depth-1))
	case 12:
		return fmt.Sprintf("if %s { { %s} } ", m.truth(3), m.doings(depth-1))
	}
	return "pass; "
}

func (m *maker) calls() []string {
	var list []string
	for _, name := range m.rules {
		list = append(list, "call "+name+"; ")
	}
	return list
}

func (m *maker) item() string {
	return m.one([]string{"x", "front(" + m.anyQueue() + ")", "back(" + m.anyQueue() + ")"})
}

// changing tells whether something may stand there that hangs on the state.
func (m *maker) changing() bool { return m.constant == m.slip() && m.Intn(2) == 0 }

// num is an expression of the type Num, but for slips.
func (m *maker) num(depth int) string {
	if m.slip() {
		return "(" + m.truth(max(0, depth-1)) + ")"
	}
	if depth > 0 && m.Intn(5) > 0 {
		switch m.Intn(8) {
		case 0:
			return "-" + m.num(depth-1)
		case 1:
			return fmt.Sprintf("min(%s, %s)", m.num(depth-1), m.num(depth-1))
		case 2:
			return fmt.Sprintf("max(%s, %s)", m.num(depth-1), m.num(depth-1))
		case 3:
			return fmt.Sprintf("(%s + %s)", m.num(depth-1), m.num(depth-1))
		case 4:
			return fmt.Sprintf("(%s - %s)", m.num(depth-1), m.num(depth-1))
		case 5:
			return fmt.Sprintf("(%s * %s)", m.num(depth-1), m.num(depth-1))
		}
		return fmt.Sprintf("(%s / %s)", m.num(depth-1), m.num(depth-1))
	}
	if m.changing() {
		list := []string{"total", "len(" + m.anyQueue() + ")"}
		list = append(list, m.vars...)
		for _, name := range m.tags {
			list = append(list, name+"("+m.item()+")")
		}
		return m.one(list)
	}
	numbers := []string{"0", "1", "2", "3", "7", "255", "256", "32768", "4194304", "1073741823", "1073741824", fmt.Sprint(m.Intn(100)), fmt.Sprint(m.Intn(1 << 30))}
	return m.one([]string{"size", "cap(" + m.anyQueue() + ")", m.one(numbers), m.one(numbers)})
}

// truth is an expression of the type Bool, but for slips.
func (m *maker) truth(depth int) string {
	if m.slip() {
		return "(" + m.num(max(0, depth-1)) + ")"
	}
	if depth > 0 && m.Intn(5) > 0 {
		switch m.Intn(6) {
		case 0:
			return "!" + m.truth(depth-1)
		case 1:
			return fmt.Sprintf("(%s && %s)", m.truth(depth-1), m.truth(depth-1))
		case 2:
			return fmt.Sprintf("(%s || %s)", m.truth(depth-1), m.truth(depth-1))
		case 3:
			return fmt.Sprintf("(%s %s %s)", m.truth(depth-1), m.one([]string{"==", "!="}), m.truth(depth-1))
		}
		return fmt.Sprintf("(%s %s %s)", m.num(depth-1), m.one([]string{"==", "!=", "<", "<=", ">", ">="}), m.num(depth-1))
	}
	if m.changing() {
		return m.one([]string{"empty", "full", "at"}) + "(" + m.anyQueue() + ")"
	}
	return m.one([]string{"true", "false"})
}

// caps are capacities that mostly fit.
func (m *maker) caps(queues []api.Queue) api.Caps {
	c := api.Caps{Size: 1 + m.Intn(20)}
	if m.Intn(4) == 0 {
		c.Size = 1 << 20
	}
	for _, queue := range queues {
		most := c.Size
		if queue.Ghost {
			most = []int{1, 30, 1 << 20}[m.Intn(3)]
		}
		c.Queues = append(c.Queues, 1+m.Intn(most))
	}
	if m.isLoose() {
		c.Size = []int{0, -1, 1, 1<<20 + 1, 1 << 40}[m.Intn(5)]
	}
	if m.isLoose() {
		c.Queues[m.Intn(len(c.Queues))] = []int{0, -1, c.Size, c.Size + 1, 1<<20 + 1, 1 << 40}[m.Intn(6)]
	}
	if m.isLoose() {
		c.Queues = c.Queues[:m.Intn(len(c.Queues))]
	}
	return c
}
