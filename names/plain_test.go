package names_test

import (
	"math/big"
	"math/rand"
	"slices"
	"strconv"

	"winnow/api"
)

// declares says of which kind a thing is that a row declares, as the chapter has it.
var declares = map[int]string{
	api.NQueue: "queue", api.NGhostQueue: "queue", api.NVar: "var", api.NTag: "tag", api.NRule: "rule",
}

// mentions says of which kind a thing is that a row names.
var mentions = map[int]string{
	api.NHit: "queue", api.NGhost: "queue", api.NInsert: "queue", api.NMove: "queue", api.NDrop: "queue", api.NShift: "queue", api.NEvict: "queue",
	api.NPlace: "queue", api.NEndOf: "queue", api.NLen: "queue", api.NCap: "queue", api.NEmpty: "queue", api.NFull: "queue", api.NAt: "queue",
	api.NSet: "var", api.NVarOf: "var",
	api.NMark: "tag", api.NTagOf: "tag",
	api.NCall: "rule",
}

var mosts = map[string]int{"queue": 16, "var": 16, "tag": 4, "rule": 64}

// plain is a tree with the rows above each row. Everything is looked for in the rows themselves, each time anew.
type plain struct {
	rows []api.Row
	over []int // the row right above; -1 of row 0
	kids [][]int
	sums []*big.Int // Laid, where it was asked for already
}

func newPlain(rows []api.Row) *plain {
	p := &plain{rows: rows, over: make([]int, len(rows)), kids: make([][]int, len(rows)), sums: make([]*big.Int, len(rows))}
	p.hang(0, -1)
	return p
}

// hang tells the row behind all of a row's own.
func (p *plain) hang(at, over int) int {
	p.over[at] = over
	next := at + 1
	for range p.rows[at].Kids {
		p.kids[at] = append(p.kids[at], next)
		next = p.hang(next, at)
	}
	return next
}

// within tells whether a row is another one, or one of its own.
func (p *plain) within(at, whole int) bool {
	for ; at >= 0; at = p.over[at] {
		if at == whole {
			return true
		}
	}
	return false
}

// number is how many of a row's kind are declared ahead of it.
func (p *plain) number(at int) int {
	n := 0
	for ahead := range at {
		if declares[p.rows[ahead].Kind] == declares[p.rows[at].Kind] {
			n++
		}
	}
	return n
}

// declaring is the row ahead that declares a name, -1: none.
func (p *plain) declaring(at int) int {
	for ahead := range at {
		if declares[p.rows[ahead].Kind] != "" && p.rows[ahead].Name == p.rows[at].Name {
			return ahead
		}
	}
	return -1
}

func isEvent(kind int) bool { return kind == api.NHit || kind == api.NGhost || kind == api.NMiss }

// wrong tells what is wrong with a row.
func (p *plain) wrong(at int) api.Errno {
	row, ahead := p.rows[at], p.declaring(at)
	if kind := declares[row.Kind]; kind != "" {
		if ahead >= 0 {
			return api.ErrTwice
		}
		if p.number(at) >= mosts[kind] {
			return api.ErrMany
		}
	}
	if kind := mentions[row.Kind]; kind != "" {
		if ahead < 0 || p.within(at, ahead) {
			return api.ErrUnknown
		}
		if declares[p.rows[ahead].Kind] != kind {
			return api.ErrOther
		}
	}
	for other := range at {
		if isEvent(row.Kind) && isEvent(p.rows[other].Kind) && p.rows[other].Name == row.Name {
			return api.ErrTwice
		}
	}
	return api.OK
}

// laid goes down into each call, and keeps what it found.
func (p *plain) laid(at int) *big.Int {
	if p.sums[at] != nil {
		return p.sums[at]
	}
	sum := big.NewInt(1)
	for _, kid := range p.kids[at] {
		sum.Add(sum, p.laid(kid))
	}
	if p.rows[at].Kind == api.NCall {
		sum.Add(sum, p.laid(p.declaring(at)+1))
	}
	p.sums[at] = sum
	return sum
}

// told is what Laid must tell.
func (p *plain) told(at int) int {
	if most := big.NewInt(api.MaxSum); p.laid(at).Cmp(most) > 0 {
		return api.MaxSum
	}
	return int(p.laid(at).Int64())
}

// fault is the first one of a tree.
func (p *plain) fault() api.Fault {
	for at := range p.rows {
		if err := p.wrong(at); err != api.OK {
			return api.Fault{Err: err, At: at}
		}
	}
	sum := new(big.Int)
	for at, row := range p.rows {
		if isEvent(row.Kind) {
			sum.Add(sum, p.laid(at+1))
		}
		if sum.Cmp(big.NewInt(1<<14)) > 0 {
			return api.Fault{Err: api.ErrLarge, At: at}
		}
	}
	return api.Fault{}
}

// policy is that of a tree without a fault; of one with a fault, what it might be (N is 0, where a name means nothing).
func (p *plain) policy() api.Policy {
	q := api.Policy{Name: p.rows[0].Name, Miss: -1}
	for at, row := range p.rows {
		switch {
		case declares[row.Kind] != "":
			row.N = p.number(at)
		case mentions[row.Kind] != "":
			row.N = p.number(p.declaring(at))
		}
		q.Rows = append(q.Rows, row)
		switch declares[row.Kind] {
		case "queue":
			q.Queues = append(q.Queues, api.Queue{Name: row.Name, Ghost: row.Kind == api.NGhostQueue})
			q.On = append(q.On, p.eventOf(row.Name))
		case "var":
			q.Vars = append(q.Vars, row.Name)
		case "tag":
			q.Tags = append(q.Tags, row.Name)
		case "rule":
			q.Rules = append(q.Rules, p.kids[at][0])
		}
		if row.Kind == api.NMiss {
			q.Miss = p.kids[at][0]
		}
	}
	return q
}

func (p *plain) eventOf(queue string) int {
	for at, row := range p.rows {
		if isEvent(row.Kind) && row.Kind != api.NMiss && row.Name == queue {
			return p.kids[at][0]
		}
	}
	return -1
}

// maker makes trees by chance: names are mostly those of things that are known by then, and of the right kind.
type maker struct {
	*rand.Rand
	rows   []api.Row
	known  map[string][]string // by kind
	slips  float64             // how often a name is any other
	calls  int                 // how many calls there are for each other doing
	events map[string]bool
}

func newMaker(seed int64, slips float64) *maker {
	return &maker{Rand: rand.New(rand.NewSource(seed)), known: map[string][]string{}, slips: slips, calls: int(seed % 4), events: map[string]bool{}}
}

// slip tells whether to do something that may be wrong.
func (m *maker) slip() bool { return m.Float64() < m.slips }

// anyName is one of any row, or one that no row declares.
func (m *maker) anyName() string {
	if len(m.rows) > 0 && m.Intn(3) > 0 {
		if name := m.rows[m.Intn(len(m.rows))].Name; name != "" {
			return name
		}
	}
	return "n" + strconv.Itoa(m.Intn(5))
}

func (m *maker) name(kind string) string {
	list := m.known[kind]
	if kind == "rule" && m.calls > 1 {
		list = list[max(0, len(list)-2):] // sums grow fast
	}
	if len(list) > 0 && !m.slip() {
		return list[m.Intn(len(list))]
	}
	return m.anyName()
}

// fresh is a name that no row has, or any.
func (m *maker) fresh() string {
	if m.slip() {
		return m.anyName()
	}
	for {
		name := "f" + strconv.Itoa(m.Intn(1000))
		if !slices.ContainsFunc(m.rows, func(row api.Row) bool { return row.Name == name }) {
			return name
		}
	}
}

// put lays a row, then its kids.
func (m *maker) put(row api.Row, kids ...func()) {
	row.Kids = len(kids)
	m.rows = append(m.rows, row)
	for _, kid := range kids {
		kid()
	}
}

func (m *maker) tree(decls int) []api.Row {
	var kids []func()
	for range decls {
		kids = append(kids, m.decl)
	}
	for range m.Intn(5) {
		kids = append(kids, m.event)
	}
	m.put(api.Row{Kind: api.NPolicy, Name: m.anyName()}, kids...)
	return m.rows
}

// decl lays a declaration: one too many only now and then.
func (m *maker) decl() {
	kinds := append(slices.Repeat([]int{api.NRule}, 1+4*m.calls), api.NRequire)
	for _, kind := range []int{api.NQueue, api.NGhostQueue, api.NVar, api.NTag} {
		if word := declares[kind]; len(m.known[word]) < mosts[word] || m.slips > 0 && m.Intn(8) == 0 {
			kinds = append(kinds, kind)
		}
	}
	kind := kinds[m.Intn(len(kinds))]
	row := api.Row{Kind: kind}
	if kind != api.NRequire {
		row.Name = m.fresh()
	}
	switch kind {
	case api.NQueue, api.NGhostQueue:
		m.put(row)
	case api.NVar:
		m.put(row, m.expr(2), m.expr(1), m.expr(1))
	case api.NTag, api.NRequire:
		m.put(row, m.expr(2))
	case api.NRule:
		m.put(row, m.block(2))
	}
	if word := declares[kind]; word != "" {
		m.known[word] = append(m.known[word], row.Name)
	}
}

// event lays one: the same one again only now and then.
func (m *maker) event() {
	row := api.Row{Kind: []int{api.NMiss, api.NHit, api.NGhost}[m.Intn(3)]}
	if row.Kind != api.NMiss {
		row.Name = m.name("queue")
	}
	for range 20 {
		if !m.events[row.Name] || m.slip() {
			break
		}
		row = api.Row{Kind: api.NHit, Name: m.name("queue")}
	}
	m.events[row.Name] = true
	m.put(row, m.block(3))
}

func (m *maker) block(depth int) func() {
	return func() {
		var kids []func()
		for range m.Intn(4 + m.calls) {
			kids = append(kids, m.doing(depth))
		}
		m.put(api.Row{Kind: api.NBlock}, kids...)
	}
}

// doing lays one; of what there is no name, mostly none.
func (m *maker) doing(depth int) func() {
	return func() {
		kinds := []int{api.NBlock, api.NIf, api.NLoop, api.NSet, api.NMark, api.NInsert, api.NMove, api.NForget, api.NShift, api.NEvict, api.NDrop, api.NCall, api.NPass}
		kinds = append(kinds, slices.Repeat([]int{api.NCall}, m.calls*len(kinds))...)
		if depth == 0 {
			kinds = kinds[3:]
		}
		kind := kinds[m.Intn(len(kinds))]
		if word := mentions[kind]; word != "" && len(m.known[word]) == 0 && !m.slip() {
			kind = api.NPass
		}
		row := api.Row{Kind: kind}
		if mentions[kind] != "" {
			row.Name = m.name(mentions[kind])
		}
		if slices.Contains([]int{api.NInsert, api.NMove, api.NShift, api.NEvict, api.NDrop}, kind) {
			row.End = m.Intn(2)
		}
		m.put(row, m.partsOf(kind, depth)...)
	}
}

func (m *maker) partsOf(kind, depth int) []func() {
	switch kind {
	case api.NBlock:
		return []func(){m.doing(depth - 1)}
	case api.NIf:
		parts := []func(){m.expr(depth), m.block(depth - 1), m.block(depth - 1)}
		return parts[:2+m.Intn(2)]
	case api.NLoop:
		return []func(){m.expr(1), m.expr(depth), m.block(depth - 1)}
	case api.NSet:
		return []func(){m.expr(2)}
	case api.NMark:
		return []func(){m.item, m.expr(2)}
	case api.NShift:
		return []func(){m.place}
	case api.NEvict:
		return []func(){m.place}[:m.Intn(2)]
	}
	return nil
}

func (m *maker) place() {
	m.put(api.Row{Kind: api.NPlace, Name: m.name("queue"), End: m.Intn(2)})
}

func (m *maker) item() {
	if len(m.known["queue"]) == 0 || m.Intn(2) == 0 {
		m.put(api.Row{Kind: api.NX})
		return
	}
	m.put(api.Row{Kind: api.NEndOf, Name: m.name("queue"), End: m.Intn(2)})
}

func (m *maker) expr(depth int) func() {
	return func() {
		kind := api.NNum + m.Intn(api.NCount-api.NNum)
		if depth == 0 {
			kind = api.NNum + m.Intn(api.NMin-api.NNum)
		}
		word := mentions[kind]
		if word != "" && len(m.known[word]) == 0 && !m.slip() {
			kind, word = api.NTrue, ""
		}
		row := api.Row{Kind: kind}
		if word != "" {
			row.Name = m.name(word)
		}
		switch {
		case kind == api.NNum:
			row.N = m.Intn(100)
			m.put(row)
		case kind == api.NTagOf:
			m.put(row, m.item)
		case kind < api.NMin:
			m.put(row)
		case kind == api.NNeg || kind == api.NNot:
			m.put(row, m.expr(depth-1))
		default:
			m.put(row, m.expr(depth-1), m.expr(depth-1))
		}
	}
}
