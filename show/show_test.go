package show_test

import (
	"math/rand"
	"strings"
	"testing"

	"winnow/api"
	"winnow/gram"
	"winnow/show"
)

// parsed tells a text's tree.
func parsed(t *testing.T, text string) []api.Row {
	t.Helper()
	rows, _, fault := gram.Parse([]byte(text))
	if fault != (api.Fault{}) {
		t.Fatalf("%s: %v", short(text), fault)
	}
	return rows
}

// wantText tells whether a text prints as another one.
func wantText(t *testing.T, from, want string) {
	t.Helper()
	rows := parsed(t, from)
	if text, err := show.Print(rows); text != want || err != api.OK {
		t.Errorf("%s: %q, %v; want %q", short(from), text, err, want)
	}
	wantLines(t, rows, want)
}

// wantRefused tells whether rows have no text, and why.
func wantRefused(t *testing.T, rows []api.Row, want api.Errno) {
	t.Helper()
	if text, err := show.Print(rows); text != "" || err != want {
		t.Errorf("Print: %q, %v; want %v", short(text), err, want)
	}
	wantLines(t, rows, "")
}

func inPolicy(lines ...string) string {
	return "policy p {\n\t" + strings.Join(lines, "\n\t") + "\n}\n"
}

func inMiss(lines ...string) string {
	return "policy p {\n\ton miss {\n\t\t" + strings.Join(lines, "\n\t\t") + "\n\t}\n}\n"
}

func TestExample1(t *testing.T) {
	wantText(t, "policy p { queue q resident; on miss { if full(q) { evict q back; } else { pass; } insert q front; } }",
		"policy p {\n\tqueue q resident;\n\ton miss {\n\t\tif full(q) {\n\t\t\tevict q back;\n\t\t} else {\n\t\t\tpass;\n\t\t}\n\t\tinsert q front;\n\t}\n}\n")
}

func TestExample2(t *testing.T) {
	for from, want := range map[string]string{
		"require 1-(2-3)*-4 < 5;":    "require 1 - (2 - 3) * -4 < 5;",
		"require (1-2)-3 == 0;":      "require 1 - 2 - 3 == 0;",
		"require !(true)&&!(1<2);":   "require !true && !(1 < 2);",
		"require (1 < 2) == true;":   "require (1 < 2) == true;",
		"require - - 1 < 0;":         "require --1 < 0;",
		"require true == (1 < 2);":   "require true == (1 < 2);",
		"require ((((((((1))))))));": "require 1;",
	} {
		wantText(t, "policy p { "+from+" }", inPolicy(want))
	}
}

func TestExample3(t *testing.T) {
	wantText(t, "policy p { on miss { if a < 1 { } else if a < 2 { } else { } } }", inMiss("if a < 1 {", "} else if a < 2 {", "} else {", "}"))
}

// Each line of P401's table, from a text without any blank that need not be.
func TestP401EachDecl(t *testing.T) {
	wantText(t, "policy p{}", "policy p {\n}\n")
	for from, want := range map[string]string{
		"queue q resident;":         "queue q resident;",
		"queue q ghost;":            "queue q ghost;",
		"var v=1 in-2..1+2;":        "var v = 1 in -2 .. 1 + 2;",
		"var v=(a||b)in(c)..((d));": "var v = a || b in c .. d;",
		"tag t in 7;":               "tag t in 7;",
		"tag t in(1&&2);":           "tag t in 1 && 2;",
		"require size>=2;":          "require size >= 2;",
		"rule r{}":                  "rule r {\n\t}",
		"rule r{pass;}":             "rule r {\n\t\tpass;\n\t}",
		"on hit q{}":                "on hit q {\n\t}",
		"on hit q{pass;pass;}":      "on hit q {\n\t\tpass;\n\t\tpass;\n\t}",
		"on ghost q{}":              "on ghost q {\n\t}",
		"on ghost q{pass;}":         "on ghost q {\n\t\tpass;\n\t}",
		"on miss{}":                 "on miss {\n\t}",
		"on miss{pass;}":            "on miss {\n\t\tpass;\n\t}",
		"queue a ghost;on miss{}":   "queue a ghost;\n\ton miss {\n\t}",
	} {
		wantText(t, "policy p{"+from+"}", inPolicy(want))
	}
}

func TestP401EachDoing(t *testing.T) {
	for from, want := range map[string]string{
		"{}":                           "{\n\t\t}",
		"{pass;}":                      "{\n\t\t\tpass;\n\t\t}",
		"{{}}":                         "{\n\t\t\t{\n\t\t\t}\n\t\t}",
		"{}{}":                         "{\n\t\t}\n\t\t{\n\t\t}",
		"if a{}":                       "if a {\n\t\t}",
		"if(a){pass;}":                 "if a {\n\t\t\tpass;\n\t\t}",
		"if a{}else{}":                 "if a {\n\t\t} else {\n\t\t}",
		"if a{pass;}else{forget;}":     "if a {\n\t\t\tpass;\n\t\t} else {\n\t\t\tforget;\n\t\t}",
		"if a{}else if b{}":            "if a {\n\t\t} else if b {\n\t\t}",
		"if a{}else{if b{}}":           "if a {\n\t\t} else {\n\t\t\tif b {\n\t\t\t}\n\t\t}",
		"if a{}else{if b{}else{}}":     "if a {\n\t\t} else {\n\t\t\tif b {\n\t\t\t} else {\n\t\t\t}\n\t\t}",
		"if a{if b{}}else{}":           "if a {\n\t\t\tif b {\n\t\t\t}\n\t\t} else {\n\t\t}",
		"if a{}if b{}":                 "if a {\n\t\t}\n\t\tif b {\n\t\t}",
		"if a{}{}":                     "if a {\n\t\t}\n\t\t{\n\t\t}",
		"if a{}else if b{}else{pass;}": "if a {\n\t\t} else if b {\n\t\t} else {\n\t\t\tpass;\n\t\t}",
		"loop 3 while a<b{}":           "loop 3 while a < b {\n\t\t}",
		"loop(3)while(a){pass;}":       "loop 3 while a {\n\t\t\tpass;\n\t\t}",
		"set v=1;":                     "set v = 1;",
		"mark x t=1;":                  "mark x t = 1;",
		"mark front(q)t=1;":            "mark front(q) t = 1;",
		"mark back(q)t=t(x)+1;":        "mark back(q) t = t(x) + 1;",
		"insert q front;":              "insert q front;",
		"insert q back;":               "insert q back;",
		"move q front;":                "move q front;",
		"move q back;":                 "move q back;",
		"drop q front;":                "drop q front;",
		"drop q back;":                 "drop q back;",
		"forget;":                      "forget;",
		"pass;":                        "pass;",
		"shift q front r back;":        "shift q front r back;",
		"shift q back r front;":        "shift q back r front;",
		"evict q front;":               "evict q front;",
		"evict q back;":                "evict q back;",
		"evict q front to g back;":     "evict q front to g back;",
		"evict q back to g front;":     "evict q back to g front;",
		"call r;":                      "call r;",
	} {
		wantText(t, "policy p{on miss{"+from+"}}", inMiss(want))
	}
}

func TestP402EachExpression(t *testing.T) {
	for from, want := range map[string]string{
		"0": "0", "000": "0", "007": "7", "100": "100", "1073741824": "1073741824", "00000000000000000001073741823": "1073741823",
		"true": "true", "false": "false", "size": "size", "total": "total", "a": "a", "_A9": "_A9",
		"len ( q )": "len(q)", "cap ( q )": "cap(q)", "empty ( q )": "empty(q)", "full ( q )": "full(q)", "at ( q )": "at(q)",
		"min(1,2)": "min(1, 2)", "max ( 1 , 2 )": "max(1, 2)", "min((1),(2||3))": "min(1, 2 || 3)",
		"t ( x )": "t(x)", "t(front ( q ))": "t(front(q))", "t( back(q) )": "t(back(q))",
		"- 1": "-1", "! a": "!a", "-!-a": "-!-a", "-(a)": "-a", "-(a+b)": "-(a + b)", "-(a*b)": "-(a * b)", "!(a&&b)": "!(a && b)", "!(-a)": "!-a",
		"a*b": "a * b", "a/b": "a / b", "a+b": "a + b", "a-b": "a - b", "a- -b": "a - -b", "a==b": "a == b", "a!=b": "a != b",
		"a<b": "a < b", "a<=b": "a <= b", "a>b": "a > b", "a>=b": "a >= b", "a&&b": "a && b", "a||b": "a || b", "a&&!b": "a && !b",
		"a-(b-c)": "a - (b - c)", "(a-b)-c": "a - b - c", "a+(b*c)": "a + b * c", "(a+b)*c": "(a + b) * c", "a*(b/c)": "a * (b / c)", "(a*b)/c": "a * b / c",
		"(a<b)<c": "(a < b) < c", "a<(b<c)": "a < (b < c)", "(a+b)<(c*d)": "a + b < c * d", "(a||b)&&c": "(a || b) && c", "a||(b&&c)": "a || b && c",
		"(a&&b)&&c": "a && b && c", "a&&(b&&c)": "a && (b && c)", "(a||b)||c": "a || b || c", "a||(b||c)": "a || (b || c)",
		"(-a)*(-b)": "-a * -b", "(a<b)&&(c<d)": "a < b && c < d", "(a&&b)<c": "(a && b) < c", "a<(b||c)": "a < (b || c)",
	} {
		wantText(t, "policy p { require "+from+"; }", inPolicy("require "+want+";"))
		wantText(t, "policy p { on miss { set v = ("+from+"); } }", inMiss("set v = "+want+";"))
	}
}

// Each kind as the kid of each number of each kind.
func TestP402EachPair(t *testing.T) {
	c := chance{rand.New(rand.NewSource(402))}
	leaf := func() *node { return c.expression(0) }
	for _, over := range forms {
		for _, under := range forms {
			for seat := range len(c.of(over.kind, leaf).kids) {
				if over.kind == api.NTagOf {
					continue
				}
				n := c.of(over.kind, leaf)
				n.kids[seat] = c.of(under.kind, leaf)
				wantPrinted(t, required(n))
			}
		}
	}
}

// required is a policy that requires an expression alone.
func required(expressions ...*node) *node {
	n := &node{row: api.Row{Kind: api.NPolicy, Name: "p"}}
	for _, e := range expressions {
		n.kids = append(n.kids, &node{row: api.Row{Kind: api.NRequire}, kids: []*node{e}})
	}
	return n
}

func TestP401Trees(t *testing.T) {
	eachTree(401, 3000, func(c chance, n *node) { wantPrinted(t, n) })
}

func TestP401NoTree(t *testing.T) {
	wantRefused(t, nil, api.ErrShape)
	wantRefused(t, []api.Row{}, api.ErrShape)
	wantRefused(t, make([]api.Row, 3), api.ErrShape)
	wantRefused(t, []api.Row{{Kind: api.NPolicy, Name: "policy"}}, api.ErrShape)
	wantRefused(t, []api.Row{{Kind: api.NPolicy, Name: "p", Kids: -1}}, api.ErrShape)
	wantRefused(t, []api.Row{{Kind: api.NPolicy, Name: "p", Kids: 1 << 62}}, api.ErrShape)
	wantRefused(t, []api.Row{{Kind: api.NBlock}}, api.ErrShape)
	wantRefused(t, []api.Row{{Kind: api.NCount}}, api.ErrShape)
	wantRefused(t, []api.Row{{Kind: -1}}, api.ErrShape)
	rows := parsed(t, "policy p { queue q resident; on miss { if full(q) { evict q back; } insert q front; } }")
	for at := range rows {
		wantRefused(t, rows[:at], api.ErrShape)
		wantRefused(t, rows[at+1:], api.ErrShape)
	}
	wantRefused(t, append(rows, rows[1]), api.ErrShape)
}

// nested is a node under so many others, each one its only kid.
func nested(n *node, times int, kind int) *node {
	for range times {
		n = &node{row: api.Row{Kind: kind}, kids: []*node{n}}
	}
	return n
}

func onMiss(doings ...*node) *node {
	block := &node{row: api.Row{Kind: api.NBlock}, kids: doings}
	return &node{row: api.Row{Kind: api.NPolicy, Name: "p"}, kids: []*node{{row: api.Row{Kind: api.NMiss}, kids: []*node{block}}}}
}

func TestP401Nest(t *testing.T) {
	one := func() *node { return &node{row: api.Row{Kind: api.NNum, N: 1}} }
	for _, n := range []*node{
		required(nested(one(), 63, api.NNeg)),
		onMiss(nested(&node{row: api.Row{Kind: api.NPass}}, 62, api.NBlock)),
	} {
		if text, err := n.printed(); text == "" || err != api.OK {
			t.Fatalf("%q, %v", text, err)
		}
		wantPrinted(t, n)
	}
	wantRefused(t, required(nested(one(), 64, api.NNeg)).rows(nil), api.ErrNest)
	wantRefused(t, onMiss(nested(&node{row: api.Row{Kind: api.NPass}}, 63, api.NBlock)).rows(nil), api.ErrNest)
}

func name(length int) string { return strings.Repeat("v", length) }

// longText is a policy of 13980 lines of 75 bytes, the last one other by so many: with its name its text has MaxSource bytes, and these.
func longText(more int) *node {
	var list []*node
	for range 13980 {
		list = append(list, &node{row: api.Row{Kind: api.NVarOf, Name: name(64)}})
	}
	last := list[len(list)-1]
	last.row.Name = name(64 + min(0, more))
	list[len(list)-1] = nested(last, max(0, more), api.NNot)
	n := required(list...)
	n.row.Name = name(64)
	return n
}

func TestP401Long(t *testing.T) {
	for more, want := range map[int]api.Errno{-1: api.OK, 0: api.OK, 1: api.ErrLong, 2: api.ErrLong} {
		n := longText(more)
		if long := len(strings.Join(n.lines(0), "\n")) + 1; long != 1<<20+more {
			t.Fatalf("%d bytes", long)
		}
		if _, err := n.printed(); err != want {
			t.Errorf("%d: %v; want %v", more, err, want)
		}
		wantPrinted(t, n)
	}
}

func passes(many int) []*node {
	var doings []*node
	for range many {
		doings = append(doings, &node{row: api.Row{Kind: api.NPass}})
	}
	return doings
}

// Of a text that has most of its bytes in tabs.
func TestP401LongByTabs(t *testing.T) {
	deep := func(many int) *node {
		return onMiss(nested(&node{row: api.Row{Kind: api.NBlock}, kids: passes(many)}, 60, api.NBlock))
	}
	text, _ := deep(0).printed()
	most := (1<<20 - len(text)) / len(strings.Repeat("\t", 63)+"pass;\n")
	for more, want := range map[int]api.Errno{0: api.OK, 1: api.ErrLong} {
		n := deep(most + more)
		if _, err := n.printed(); err != want {
			t.Errorf("%d: %v; want %v", more, err, want)
		}
		wantPrinted(t, n)
	}
}

// Of a text that has nearly all of them in one line.
func TestP401LongLine(t *testing.T) {
	most := (1<<20 - len(inPolicy("require ;"))) / 67
	for many, want := range map[int]api.Errno{most: api.OK, most + 1: api.ErrLong} {
		n := required(sum(many, 64))
		if _, err := n.printed(); err != want {
			t.Errorf("%d: %v; want %v", many, err, want)
		}
		wantPrinted(t, n)
	}
}

// sum is one of so many names, from the left.
func sum(many, long int) *node {
	n := &node{row: api.Row{Kind: api.NVarOf, Name: name(long)}}
	for range many - 1 {
		n = &node{row: api.Row{Kind: api.NAdd}, kids: []*node{n, {row: api.Row{Kind: api.NVarOf, Name: name(long)}}}}
	}
	return n
}

func TestP401Many(t *testing.T) {
	// policy p { on miss { } } are eight tokens, pass ; are two, call r ; three.
	for _, c := range []struct {
		passes int
		call   bool
		want   api.Errno
	}{{32764, false, api.OK}, {32765, false, api.ErrMany}, {32762, true, api.OK}, {32763, true, api.ErrMany}} {
		doings := passes(c.passes)
		if c.call {
			doings = append(doings, &node{row: api.Row{Kind: api.NCall, Name: "r"}})
		}
		n := onMiss(doings...)
		if _, err := n.printed(); err != c.want {
			t.Errorf("%v: %v", c, err)
		}
		wantPrinted(t, n)
	}
	for many, want := range map[int]api.Errno{32765: api.OK, 32766: api.ErrMany} {
		n := required(sum(many, 1))
		if _, err := n.printed(); err != want {
			t.Errorf("%d: %v", many, err)
		}
		wantPrinted(t, n)
	}
}

// Where several errors apply, the first one that P401 names is told.
func TestP401FirstError(t *testing.T) {
	long := required(sum(70000, 64))
	if _, err := long.printed(); err != api.ErrLong || len(token.FindAllString(long.lines(0)[1], -1)) <= 1<<16 {
		t.Fatalf("%v", err)
	}
	wantPrinted(t, long)

	deep := required(nested(sum(70000, 64), 64, api.NNot))
	wantRefused(t, deep.rows(nil), api.ErrNest)
	wantRefused(t, append(deep.rows(nil), api.Row{}), api.ErrShape)
}
