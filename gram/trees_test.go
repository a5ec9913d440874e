package gram_test

import (
	"math"
	"math/rand"
	"slices"
	"strings"
	"testing"

	"winnow/api"
	"winnow/gram"
)

// node is a tree as such, not in rows.
type node struct {
	row  api.Row
	kids []*node
}

// line is what the chapter's table says of a kind: what it has, how it is written. In the text $ is its Name, @ its End, # its N, and a word in <> a kid; what stands behind * is done any number of times, what stands in [] perhaps.
type line struct {
	kind int
	text string
}

// table is the chapter's two tables in one.
var table = map[string][]line{
	"policy": {{api.NPolicy, "policy $ { *<decl> *<event> }"}},
	"decl": {
		{api.NQueue, "queue $ resident ;"}, {api.NGhostQueue, "queue $ ghost ;"}, {api.NVar, "var $ = <1> in <1> .. <1> ;"},
		{api.NTag, "tag $ in <1> ;"}, {api.NRequire, "require <1> ;"}, {api.NRule, "rule $ <block>"},
	},
	"event": {{api.NHit, "on hit $ <block>"}, {api.NGhost, "on ghost $ <block>"}, {api.NMiss, "on miss <block>"}},
	"block": {{api.NBlock, "{ *<doing> }"}},
	"doing": {
		{api.NBlock, "{ *<doing> }"}, {api.NIf, "if <1> <block> [else <tail>]"}, {api.NLoop, "loop <1> while <1> <block>"},
		{api.NSet, "set $ = <1> ;"}, {api.NMark, "mark <item> $ = <1> ;"}, {api.NInsert, "insert $ @ ;"}, {api.NMove, "move $ @ ;"},
		{api.NForget, "forget ;"}, {api.NShift, "shift $ @ <place> ;"}, {api.NEvict, "evict $ @ [to <place>] ;"}, {api.NDrop, "drop $ @ ;"},
		{api.NCall, "call $ ;"}, {api.NPass, "pass ;"},
	},
	"tail":  {{api.NBlock, "{ *<doing> }"}, {api.NIf, "if <1> <block> [else <tail>]"}},
	"place": {{api.NPlace, "$ @"}},
	"item":  {{api.NX, "x"}, {api.NEndOf, "@ ( $ )"}},
	"1":     {{api.NOr, "<1> || <2>"}},
	"2":     {{api.NAnd, "<2> && <3>"}},
	"3":     {{api.NEq, "<4> == <4>"}, {api.NNe, "<4> != <4>"}, {api.NLt, "<4> < <4>"}, {api.NLe, "<4> <= <4>"}, {api.NGt, "<4> > <4>"}, {api.NGe, "<4> >= <4>"}},
	"4":     {{api.NAdd, "<4> + <5>"}, {api.NSub, "<4> - <5>"}},
	"5":     {{api.NMul, "<5> * <6>"}, {api.NDiv, "<5> / <6>"}},
	"6":     {{api.NNeg, "- <6>"}, {api.NNot, "! <6>"}},
	"7": {
		{api.NNum, "#"}, {api.NVarOf, "$"}, {api.NTrue, "true"}, {api.NFalse, "false"}, {api.NSize, "size"}, {api.NTotal, "total"},
		{api.NLen, "len ( $ )"}, {api.NCap, "cap ( $ )"}, {api.NEmpty, "empty ( $ )"}, {api.NFull, "full ( $ )"}, {api.NAt, "at ( $ )"},
		{api.NTagOf, "$ ( <item> )"}, {api.NMin, "min ( <1> , <1> )"}, {api.NMax, "max ( <1> , <1> )"},
	},
}

// lineOf tells what the table says of a kind.
func lineOf(kind int) string { return lines[kind] }

var lines = func() map[int]string {
	all := map[int]string{}
	for _, list := range table {
		for _, l := range list {
			all[l.kind] = l.text
		}
	}
	return all
}()

// isRule tells whether a word of the table is a rule of expressions.
func isRule(word string) bool { return word >= "1" && word <= "7" }

// kindsOf are all kinds that may stand for a word of the table: for a rule of expressions all, since there are brackets.
func kindsOf(word string) []int { return kinds[word] }

var kinds = func() map[string][]int {
	all := map[string][]int{}
	for word := range table {
		for w, list := range table {
			for _, l := range list {
				if w == word || isRule(word) && isRule(w) {
					all[word] = append(all[word], l.kind)
				}
			}
		}
		slices.Sort(all[word])
	}
	return all
}()

// seats are the kids that a kind's line asks for: the least, one that may be there, and those that may be there any number of times.
func seats(kind int) (least, perhaps, many []string) {
	for _, w := range strings.Fields(lineOf(kind)) {
		i, j := strings.Index(w, "<"), strings.Index(w, ">")
		switch {
		case i < 0 || j < i+2:
		case w[0] == '*' && len(w) > 1:
			many = append(many, w[i+1:j])
		case w[len(w)-1] == ']':
			perhaps = append(perhaps, w[i+1:j])
		default:
			least = append(least, w[i+1:j])
		}
	}
	return least, perhaps, many
}

// grow makes a tree by chance for a word of the table, about as deep as told.
func grow(r *rand.Rand, word string, depth int) *node {
	kinds := kindsOf(word)
	kind := kinds[r.Intn(len(kinds))]
	if isRule(word) && (depth <= 0 || r.Intn(4) == 0) {
		kind = []int{api.NNum, api.NVarOf, api.NSize, api.NLen, api.NTagOf}[r.Intn(5)]
	}
	if depth <= 0 && word == "doing" {
		kind = api.NForget + r.Intn(api.NPass-api.NForget+1)
	}
	n := &node{row: api.Row{Kind: kind}}
	text := lineOf(kind)
	if strings.Contains(text, "$") {
		n.row.Name = []string{"q", "r", "x1", "_", "Policy", strings.Repeat("z", 64)}[r.Intn(6)]
	}
	if strings.Contains(text, "@") {
		n.row.End = r.Intn(2)
	}
	if text == "#" {
		n.row.N = []int{0, 1, 7, 12345, api.MaxNum}[r.Intn(5)]
	}
	least, perhaps, many := seats(kind)
	if len(perhaps) > 0 && depth > 0 && r.Intn(2) == 0 {
		least = append(least, perhaps...)
	}
	for _, w := range many {
		for range r.Intn(4) * min(1, max(0, depth)) {
			least = append(least, w)
		}
	}
	for _, w := range least {
		n.kids = append(n.kids, grow(r, w, depth-1))
	}
	n.row.Kids = len(n.kids)
	return n
}

// lay tells a tree's rows, and how many rows each hangs below.
func (n *node) lay(below int, rows []api.Row, depths []int) ([]api.Row, []int) {
	rows, depths = append(rows, n.row), append(depths, below)
	for _, k := range n.kids {
		rows, depths = k.lay(below+1, rows, depths)
	}
	return rows, depths
}

// print is a text that is being written: brackets stand where they must, and by chance elsewhere.
type print struct {
	r      *rand.Rand
	more   int // of a hundred: how often brackets stand that need not
	text   strings.Builder
	places map[*node]int
	open   int
	most   int
}

var blanks = []string{" ", " ", "\n", "\t", "  ", " # remark ;\n"}

func (p *print) token(s string) {
	switch s {
	case "{", "(":
		p.open++
	case "}", ")":
		p.open--
	}
	p.most = max(p.most, p.open)
	p.text.WriteString(blanks[p.r.Intn(len(blanks))])
	p.text.WriteString(s)
}

// place notes that a node's place is that of the token that was written last.
func (p *print) place(n *node, token string) { p.places[n] = p.text.Len() - len(token) }

// kid writes a kid that stands for a word of the table.
func (p *print) kid(n *node, word string) {
	brackets := 0
	if isRule(word) {
		if !slices.ContainsFunc(kindsAbove(word), func(k int) bool { return k == n.row.Kind }) {
			brackets++
		}
		for p.r.Intn(100) < p.more {
			brackets++
		}
	}
	for range brackets {
		p.token("(")
	}
	p.node(n)
	for range brackets {
		p.token(")")
	}
}

// kindsAbove are the kinds of the rule of that word, and of those that hold closer.
func kindsAbove(word string) []int {
	var list []int
	for w, lines := range table {
		for _, l := range lines {
			if isRule(w) && w >= word {
				list = append(list, l.kind)
			}
		}
	}
	return list
}

// own tells which of a line's words is the row's place: its sign, else the first one.
func own(text string) int {
	words := strings.Fields(text)
	if len(words) == 3 && words[0][0] == '<' && words[2][0] == '<' {
		return 1
	}
	return 0
}

func (p *print) node(n *node) {
	kids := n.kids
	text := lineOf(n.row.Kind)
	unary := n.row.Kind == api.NNeg || n.row.Kind == api.NNot
	skip := false // what need not stand there, and doesn't
	for i, w := range strings.Fields(text) {
		if w[0] == '[' {
			skip = len(kids) == 0
			w = w[1:]
		}
		last := w[len(w)-1] == ']'
		w = strings.TrimSuffix(w, "]")
		switch {
		case skip:
		case w[0] == '*' && len(w) > 1:
			for len(kids) > 0 && slices.Contains(kindsOf(w[2:len(w)-1]), kids[0].row.Kind) {
				p.kid(kids[0], w[2:len(w)-1])
				kids = kids[1:]
			}
		case w[0] == '<' && len(w) > 2:
			p.kid(kids[0], w[1:len(w)-1])
			kids = kids[1:]
		default:
			s := p.filled(n, w)
			p.token(s)
			if i == own(text) {
				p.place(n, s)
			}
			if unary {
				p.open++
				p.most = max(p.most, p.open)
			}
		}
		skip = skip && !last
	}
	if unary {
		p.open--
	}
}

// filled tells a token of a node for a word of its line.
func (p *print) filled(n *node, w string) string {
	switch w {
	case "$":
		return n.row.Name
	case "@":
		return []string{"front", "back"}[n.row.End]
	case "#":
		return digits(n.row.N)
	}
	return w
}

func digits(n int) string {
	s := ""
	for ; n > 9; n /= 10 {
		s = string(rune('0'+n%10)) + s
	}
	return string(rune('0'+n)) + s
}

// written tells a text of the tree, the place of each row, and how many levels are open in it at most.
func (n *node) written(r *rand.Rand, more int) (string, []int, int) {
	p := &print{r: r, more: more, places: map[*node]int{}}
	p.node(n)
	var places []int
	var each func(n *node)
	each = func(n *node) {
		places = append(places, p.places[n])
		for _, k := range n.kids {
			each(k)
		}
	}
	each(n)
	return p.text.String(), places, p.most
}

// eachTree goes over trees that were made by chance.
func eachTree(seed int64, times int, do func(r *rand.Rand, n *node)) {
	r := rand.New(rand.NewSource(seed))
	for i := range times {
		n := grow(r, "policy", 1+i%7)
		if _, _, most := n.written(r, 0); most <= api.MaxLevels {
			do(r, n)
		}
	}
}

func TestP301TreesAsWritten(t *testing.T) {
	eachTree(301, 3000, func(r *rand.Rand, n *node) {
		rows, _ := n.lay(0, nil, nil)
		for _, more := range []int{0, 10, 40} {
			text, places, most := n.written(r, more)
			if most <= api.MaxLevels {
				wantTree(t, text, rows, places)
			}
		}
	})
}

func TestP302Trees(t *testing.T) {
	eachTree(302, 3000, func(r *rand.Rand, n *node) {
		rows, _ := n.lay(0, nil, nil)
		wantCheck(t, rows, api.OK, 0)
	})
}

func TestP303Trees(t *testing.T) {
	eachTree(303, 1000, func(r *rand.Rand, n *node) {
		rows, _ := n.lay(0, nil, nil)
		var each func(n *node, at int) int
		each = func(n *node, at int) int {
			behind := at + 1
			var kids []int
			for _, k := range n.kids {
				kids = append(kids, behind)
				behind = each(k, behind)
			}
			if got := gram.Kids(rows, at); !slices.Equal(got, kids) {
				t.Errorf("Kids(%v, %d): %v; want %v", rows, at, got, kids)
			}
			if got := gram.End(rows, at); got != behind {
				t.Errorf("End(%v, %d): %d; want %d", rows, at, got, behind)
			}
			return behind
		}
		each(n, 0)
	})
}

func TestP305TreesAsWritten(t *testing.T) {
	r := rand.New(rand.NewSource(305))
	for i := range 3000 {
		n := grow(r, "policy", 1+i%9)
		rows, _ := n.lay(0, nil, nil)
		if _, _, most := n.written(r, 0); gram.Levels(rows) != most {
			t.Errorf("Levels(%v): %d; want %d", rows, gram.Levels(rows), most)
		}
	}
}

func TestP306Trees(t *testing.T) {
	eachTree(306, 1000, func(r *rand.Rand, n *node) {
		rows, depths := n.lay(0, nil, nil)
		var list []int
		for at, below := range gram.Walk(rows) {
			if at != len(list) {
				t.Fatalf("Walk(%v): row %d behind %d rows", rows, at, len(list))
			}
			list = append(list, below)
		}
		if !slices.Equal(list, depths) {
			t.Errorf("Walk(%v): %v; want %v", rows, list, depths)
		}
	})
}

// checked goes through rows by the table, a recursion that Check is held against. It answers the number of the row behind, or of the first wrong one.
func checked(rows []api.Row, at int, kinds []int) (int, bool) {
	if at >= len(rows) || !slices.Contains(kinds, rows[at].Kind) {
		return at, false
	}
	row := rows[at]
	text := lineOf(row.Kind)
	named, ended, numbered := strings.Contains(text, "$"), strings.Contains(text, "@"), text == "#"
	least, perhaps, many := seats(row.Kind)
	switch {
	case named && !nameOf(row.Name), !named && row.Name != "":
		return at, false
	case row.End != 0 && !(ended && row.End == 1), row.N != 0 && !(numbered && row.N > 0 && row.N <= 1<<30):
		return at, false
	case row.Kids < len(least), row.Kids > len(least)+len(perhaps) && len(many) == 0:
		return at, false
	}
	return checkedKids(rows, at, append(least, perhaps...), many)
}

func checkedKids(rows []api.Row, at int, seats, many []string) (int, bool) {
	kid, right := at+1, true
	for i := range rows[at].Kids {
		var kinds []int
		if len(many) > 0 {
			for _, w := range many {
				kinds = append(kinds, kindsOf(w)...)
			}
		} else {
			kinds = kindsOf(seats[i])
		}
		was := 0
		if kid < len(rows) {
			was = rows[kid].Kind
		}
		if kid, right = checked(rows, kid, kinds); !right {
			return kid, false
		}
		if len(many) == 2 && slices.Contains(kindsOf(many[1]), was) {
			many = many[1:]
		}
	}
	return kid, true
}

func nameOf(s string) bool {
	in := func(c rune) bool {
		return !strings.ContainsRune("abcdefghijklmnopqrstuvwxyzABCDEFGHIJKLMNOPQRSTUVWXYZ_0123456789", c)
	}
	return s != "" && len(s) <= 64 && !strings.ContainsFunc(s, in) && !strings.ContainsAny(s[:1], "0123456789") && !slices.Contains(strings.Fields(keptWords), s)
}

// wantChecked holds Check against the table.
func wantChecked(t *testing.T, rows []api.Row) {
	t.Helper()
	at, right := checked(rows, 0, []int{api.NPolicy})
	want := api.Fault{Err: api.ErrShape, At: at}
	if right && at == len(rows) {
		want = api.Fault{}
		if gram.Levels(rows) > api.MaxLevels {
			want.Err = api.ErrNest
		}
	}
	if f := gram.Check(rows); f != want {
		t.Errorf("Check(%v): %v; want %v", rows, f, want)
	}
}

var (
	oddNames = []string{"", "q", "x", "front", "_", "9a", "a.b", "a\x00", "\u00e9", strings.Repeat("b", 64), strings.Repeat("b", 65)}
	oddNums  = []int{math.MinInt, -1 << 30, -2, -1, 0, 1, 2, 3, 4, 5, 1 << 30, 1<<30 + 1, math.MaxInt}
)

// change changes a row of a tree by chance.
func change(r *rand.Rand, rows []api.Row) []api.Row {
	rows = slices.Clone(rows)
	at := r.Intn(len(rows))
	other := api.Row{Kind: r.Intn(api.NCount+3) - 1}
	switch n := oddNums[r.Intn(len(oddNums))]; r.Intn(10) {
	case 0:
		rows[at].Kind = other.Kind
	case 1:
		rows[at].Name = oddNames[r.Intn(len(oddNames))]
	case 2:
		rows[at].End = n
	case 3:
		rows[at].N = n
	case 4:
		rows[at].Kids = n
	case 5:
		rows[at].Kids += r.Intn(3) - 1
	case 6:
		rows = slices.Delete(rows, at, at+1)
	case 7:
		rows = slices.Insert(rows, at, other)
	case 8:
		rows = rows[:at]
	case 9:
		b := r.Intn(len(rows))
		rows[at], rows[b] = rows[b], rows[at]
	}
	return rows
}

func TestP302ChangedTrees(t *testing.T) {
	eachTree(3020, 400, func(r *rand.Rand, n *node) {
		rows, _ := n.lay(0, nil, nil)
		wantChecked(t, rows)
		for range 50 {
			wantChecked(t, change(r, rows))
		}
	})
}

// Each kind as the kid of each number of each kind.
func TestP302EachKindInEachSeat(t *testing.T) {
	r := rand.New(rand.NewSource(3021))
	for parent := 1; parent < api.NCount; parent++ {
		for tries := 0; tries < 10; {
			n := grow(r, "policy", 5)
			rows, _ := n.lay(0, nil, nil)
			at := slices.IndexFunc(rows, func(x api.Row) bool { return x.Kind == parent })
			if at < 0 {
				continue
			}
			tries++
			for _, kid := range append(gram.Kids(rows, at), at) {
				for kind := range api.NCount + 1 {
					other := slices.Clone(rows)
					other[kid].Kind = kind
					wantChecked(t, other)
					least, _, _ := seats(kind)
					own := &node{row: api.Row{Kind: kind, Kids: len(least)}}
					if strings.Contains(lineOf(kind), "$") {
						own.row.Name = "n"
					}
					for _, w := range least {
						own.kids = append(own.kids, grow(r, w, 0))
					}
					in, _ := own.lay(0, nil, nil)
					wantChecked(t, slices.Replace(slices.Clone(rows), kid, gram.End(rows, kid), in...))
				}
			}
		}
	}
}
