package show_test

import (
	"math/rand"
	"regexp"
	"strconv"
	"strings"
	"testing"

	"winnow/api"
	"winnow/gram"
	"winnow/show"
)

// node is a tree as such, not in rows.
type node struct {
	row  api.Row
	kids []*node
}

// rows tells a node's rows.
func (n *node) rows(ahead []api.Row) []api.Row {
	row := n.row
	row.Kids = len(n.kids)
	ahead = append(ahead, row)
	for _, kid := range n.kids {
		ahead = kid.rows(ahead)
	}
	return ahead
}

// form is how an expression is written: $ is its Name, a digit a kid that the grammar takes from that rule on (1 or, 2 and, 3 compare, 4 sum, 5 term, 6 bare, 7 first), x an item.
type form struct {
	kind, rule int
	text       string
}

// forms are those of the grammar's table, with the blanks of P402.
var forms = []form{
	{api.NOr, 1, "1 || 2"}, {api.NAnd, 2, "2 && 3"},
	{api.NEq, 3, "4 == 4"}, {api.NNe, 3, "4 != 4"}, {api.NLt, 3, "4 < 4"}, {api.NLe, 3, "4 <= 4"}, {api.NGt, 3, "4 > 4"}, {api.NGe, 3, "4 >= 4"},
	{api.NAdd, 4, "4 + 5"}, {api.NSub, 4, "4 - 5"}, {api.NMul, 5, "5 * 6"}, {api.NDiv, 5, "5 / 6"}, {api.NNeg, 6, "-6"}, {api.NNot, 6, "!6"},
	{api.NTrue, 7, "true"}, {api.NFalse, 7, "false"}, {api.NSize, 7, "size"}, {api.NTotal, 7, "total"}, {api.NVarOf, 7, "$"},
	{api.NLen, 7, "len($)"}, {api.NCap, 7, "cap($)"}, {api.NEmpty, 7, "empty($)"}, {api.NFull, 7, "full($)"}, {api.NAt, 7, "at($)"},
	{api.NMin, 7, "min(1, 1)"}, {api.NMax, 7, "max(1, 1)"}, {api.NTagOf, 7, "$(@)"}, {api.NNum, 7, "#"},
}

func formOf(kind int) form {
	for _, f := range forms {
		if f.kind == kind {
			return f
		}
	}
	panic("no expression")
}

// expression writes an expression where the grammar takes one from a rule on.
func (n *node) expression(rule int, text *strings.Builder) {
	f := formOf(n.row.Kind)
	if f.rule < rule {
		text.WriteString("(")
		defer text.WriteString(")")
	}
	kids := n.kids
	for _, c := range f.text {
		switch {
		case c == '$':
			text.WriteString(n.row.Name)
		case c == '#':
			text.WriteString(strconv.Itoa(n.row.N))
		case c == '@':
			text.WriteString(n.kids[0].item())
		case '1' <= c && c <= '7':
			kids[0].expression(int(c-'0'), text)
			kids = kids[1:]
		default:
			text.WriteRune(c)
		}
	}
}

func endWord(row api.Row) string { return []string{"front", "back"}[row.End] }

func (n *node) item() string {
	if n.row.Kind == api.NX {
		return "x"
	}
	return endWord(n.row) + "(" + n.row.Name + ")"
}

// e tells a kid's text, as an expression by itself.
func (n *node) e(kid int) string {
	var text strings.Builder
	n.kids[kid].expression(1, &text)
	return text.String()
}

// lines tells a row's lines, at so many tabs: a recursion that Print is held against.
func (n *node) lines(tabs int) []string {
	at := func(text string) string { return strings.Repeat("\t", tabs) + text }
	name, end := n.row.Name, endWord(n.row)
	block := func(head string, of *node) []string {
		list := []string{at(head + "{")}
		for _, kid := range of.kids {
			list = append(list, kid.lines(tabs+1)...)
		}
		return append(list, at("}"))
	}
	switch n.row.Kind {
	case api.NPolicy:
		return block("policy "+name+" ", n)
	case api.NQueue:
		return []string{at("queue " + name + " resident;")}
	case api.NGhostQueue:
		return []string{at("queue " + name + " ghost;")}
	case api.NVar:
		return []string{at("var " + name + " = " + n.e(0) + " in " + n.e(1) + " .. " + n.e(2) + ";")}
	case api.NTag:
		return []string{at("tag " + name + " in " + n.e(0) + ";")}
	case api.NRequire:
		return []string{at("require " + n.e(0) + ";")}
	case api.NRule:
		return block("rule "+name+" ", n.kids[0])
	case api.NHit:
		return block("on hit "+name+" ", n.kids[0])
	case api.NGhost:
		return block("on ghost "+name+" ", n.kids[0])
	case api.NMiss:
		return block("on miss ", n.kids[0])
	case api.NBlock:
		return block("", n)
	case api.NIf:
		list := block("if "+n.e(0)+" ", n.kids[1])
		if len(n.kids) == 2 {
			return list
		}
		tail := n.kids[2].lines(tabs)
		tail[0] = at("} else " + tail[0][tabs:])
		return append(list[:len(list)-1], tail...)
	case api.NLoop:
		return block("loop "+n.e(0)+" while "+n.e(1)+" ", n.kids[2])
	case api.NSet:
		return []string{at("set " + name + " = " + n.e(0) + ";")}
	case api.NMark:
		return []string{at("mark " + n.kids[0].item() + " " + name + " = " + n.e(1) + ";")}
	case api.NInsert:
		return []string{at("insert " + name + " " + end + ";")}
	case api.NMove:
		return []string{at("move " + name + " " + end + ";")}
	case api.NDrop:
		return []string{at("drop " + name + " " + end + ";")}
	case api.NForget:
		return []string{at("forget;")}
	case api.NPass:
		return []string{at("pass;")}
	case api.NShift:
		return []string{at("shift " + name + " " + end + " " + n.kids[0].row.Name + " " + endWord(n.kids[0].row) + ";")}
	case api.NEvict:
		if len(n.kids) == 0 {
			return []string{at("evict " + name + " " + end + ";")}
		}
		return []string{at("evict " + name + " " + end + " to " + n.kids[0].row.Name + " " + endWord(n.kids[0].row) + ";")}
	case api.NCall:
		return []string{at("call " + name + ";")}
	}
	panic("no line")
}

var token = regexp.MustCompile(`[A-Za-z_][A-Za-z0-9_]*|[0-9]+|\.\.|[=!<>]=|&&|\|\||[{}();,=<>+*/!-]`)

// printed tells what Print of a node must answer.
func (n *node) printed() (string, api.Errno) {
	if fault := gram.Check(n.rows(nil)); fault.Err != api.OK {
		return "", fault.Err
	}
	text := strings.Join(n.lines(0), "\n") + "\n"
	switch {
	case len(text) > 1<<20:
		return "", api.ErrLong
	case len(token.FindAllString(text, -1)) > 1<<16:
		return "", api.ErrMany
	}
	return text, api.OK
}

func short(text string) string {
	if len(text) > 500 {
		return text[:500] + " .."
	}
	return text
}

// wantPrinted holds Print, and Lines, against the recursion.
func wantPrinted(t *testing.T, n *node) {
	t.Helper()
	rows := n.rows(nil)
	want, err := n.printed()
	if text, e := show.Print(rows); text != want || e != err {
		t.Errorf("Print: %q, %v; want %q, %v", short(text), e, short(want), err)
	}
	wantLines(t, rows, want)
}

// wantLines tells whether Lines goes over just the lines of a text.
func wantLines(t *testing.T, rows []api.Row, text string) {
	t.Helper()
	var lines strings.Builder
	for line := range show.Lines(rows) {
		if strings.Contains(line, "\n") {
			t.Errorf("Lines: %q", line)
		}
		lines.WriteString(line + "\n")
	}
	if lines.String() != text {
		t.Errorf("Lines: %q; want %q", short(lines.String()), short(text))
	}
}

var (
	declKinds  = []int{api.NQueue, api.NGhostQueue, api.NVar, api.NTag, api.NRequire, api.NRule}
	eventKinds = []int{api.NHit, api.NGhost, api.NMiss}
	doingKinds = []int{
		api.NBlock, api.NIf, api.NLoop, api.NSet, api.NMark, api.NInsert, api.NMove, api.NForget,
		api.NShift, api.NEvict, api.NDrop, api.NCall, api.NPass,
	}
	names   = []string{"q", "r", "x1", "_", "Policy", "queue_", strings.Repeat("z", 64)}
	numbers = []int{0, 1, 7, 10, 12345, api.MaxNum}
)

// chance makes trees by chance.
type chance struct{ *rand.Rand }

func pick[T any](c chance, list []T) T { return list[c.Intn(len(list))] }

func (c chance) policy(depth int) *node {
	n := &node{row: api.Row{Kind: api.NPolicy, Name: pick(c, names)}}
	for range c.Intn(5) {
		n.kids = append(n.kids, c.line(pick(c, declKinds), depth-1))
	}
	for range c.Intn(4) {
		n.kids = append(n.kids, c.line(pick(c, eventKinds), depth-1))
	}
	return n
}

func (c chance) block(depth int) *node {
	n := &node{row: api.Row{Kind: api.NBlock}}
	for range c.Intn(4) {
		kind := pick(c, doingKinds)
		if depth <= 0 {
			kind = pick(c, doingKinds[3:])
		}
		n.kids = append(n.kids, c.line(kind, depth-1))
	}
	return n
}

// line makes a row that has a line of its own.
func (c chance) line(kind, depth int) *node {
	n := &node{row: api.Row{Kind: kind}}
	switch kind {
	case api.NRequire, api.NMiss, api.NIf, api.NLoop, api.NForget, api.NPass, api.NBlock:
	default:
		n.row.Name = pick(c, names)
	}
	switch kind {
	case api.NVar:
		n.kids = []*node{c.expression(depth), c.expression(depth), c.expression(depth)}
	case api.NTag, api.NRequire, api.NSet:
		n.kids = []*node{c.expression(depth)}
	case api.NRule, api.NHit, api.NGhost, api.NMiss:
		n.kids = []*node{c.block(depth)}
	case api.NBlock:
		return c.block(depth)
	case api.NIf:
		n.kids = append([]*node{c.expression(depth), c.block(depth)}, c.tail(depth)...)
	case api.NLoop:
		n.kids = []*node{c.expression(depth), c.expression(depth), c.block(depth)}
	case api.NMark:
		n.kids = []*node{c.item(), c.expression(depth)}
	case api.NInsert, api.NMove, api.NDrop, api.NShift, api.NEvict:
		n.row.End = c.Intn(2)
	}
	if kind == api.NShift || kind == api.NEvict && c.Intn(2) == 0 {
		n.kids = []*node{{row: api.Row{Kind: api.NPlace, Name: pick(c, names), End: c.Intn(2)}}}
	}
	return n
}

func (c chance) tail(depth int) []*node {
	switch c.Intn(4) {
	case 0:
		return []*node{c.block(depth)}
	case 1, 2:
		return []*node{c.line(api.NIf, depth)}
	}
	return nil
}

func (c chance) item() *node {
	if c.Intn(2) == 0 {
		return &node{row: api.Row{Kind: api.NX}}
	}
	return &node{row: api.Row{Kind: api.NEndOf, Name: pick(c, names), End: c.Intn(2)}}
}

func (c chance) expression(depth int) *node {
	f := pick(c, forms)
	if depth <= 0 {
		f = formOf(pick(c, []int{api.NNum, api.NVarOf, api.NSize, api.NLen, api.NTagOf}))
	}
	return c.of(f.kind, func() *node { return c.expression(depth - 1) })
}

// of makes an expression of a kind, its kids as told.
func (c chance) of(kind int, kid func() *node) *node {
	n := &node{row: api.Row{Kind: kind}}
	for _, sign := range formOf(kind).text {
		switch {
		case sign == '$':
			n.row.Name = pick(c, names)
		case sign == '#':
			n.row.N = pick(c, numbers)
		case sign == '@':
			n.kids = append(n.kids, c.item())
		case '1' <= sign && sign <= '7':
			n.kids = append(n.kids, kid())
		}
	}
	return n
}

// eachTree goes over trees that were made by chance.
func eachTree(seed int64, times int, do func(c chance, n *node)) {
	c := chance{rand.New(rand.NewSource(seed))}
	for i := range times {
		do(c, c.policy(1+i%7))
	}
}
