package names_test

import (
	"fmt"
	"slices"
	"strings"
	"testing"

	"winnow/api"
	"winnow/gram"
	"winnow/names"
)

func parsed(t *testing.T, text string) []api.Row {
	t.Helper()
	rows, _, fault := gram.Parse([]byte(text))
	if fault != (api.Fault{}) {
		t.Fatalf("%.200s: %v", text, fault)
	}
	return rows
}

// same tells whether policies are, where no list and an empty one are.
func same(p, q api.Policy) bool {
	return p.Name == q.Name && slices.Equal(p.Rows, q.Rows) && slices.Equal(p.Queues, q.Queues) && slices.Equal(p.Vars, q.Vars) &&
		slices.Equal(p.Tags, q.Tags) && slices.Equal(p.Rules, q.Rules) && slices.Equal(p.On, q.On) && p.Miss == q.Miss
}

// wantFault wants one of a policy's text, and nothing beside it.
func wantFault(t *testing.T, inner string, err api.Errno, at int) {
	t.Helper()
	rows := parsed(t, "policy p { "+inner+" }")
	p, fault := names.Resolve(rows)
	if fault != (api.Fault{Err: err, At: at}) || !same(p, api.Policy{}) {
		t.Errorf("%.200s: %v, %v; want %v at row %d", inner, fault, p, err, at)
	}
}

// wantRight wants a policy that Check takes.
func wantRight(t *testing.T, inner string) api.Policy {
	t.Helper()
	p, fault := names.Resolve(parsed(t, "policy p { "+inner+" }"))
	if fault != (api.Fault{}) || len(p.Rows) == 0 {
		t.Fatalf("%.200s: %v", inner, fault)
	}
	if err := names.Check(p); err != api.OK {
		t.Fatalf("%.200s: Check: %v", inner, err)
	}
	return p
}

// wantLast wants a fault at the row that is so many ahead of the end.
func wantLast(t *testing.T, inner string, err api.Errno, behind int) {
	t.Helper()
	wantFault(t, inner, err, len(parsed(t, "policy p { "+inner+" }"))-behind)
}

const exampleOne = "queue a resident; queue b ghost; var v = 0 in 0 .. 9; rule r { set v = len(a); } on miss { call r; call r; insert a front; }"

func TestExampleOne(t *testing.T) {
	want := api.Policy{
		Name: "p",
		Rows: []api.Row{
			{Kind: api.NPolicy, Name: "p", Kids: 5},
			{Kind: api.NQueue, Name: "a"},
			{Kind: api.NGhostQueue, Name: "b", N: 1},
			{Kind: api.NVar, Name: "v", Kids: 3},
			{Kind: api.NNum}, {Kind: api.NNum}, {Kind: api.NNum, N: 9},
			{Kind: api.NRule, Name: "r", Kids: 1},
			{Kind: api.NBlock, Kids: 1},
			{Kind: api.NSet, Name: "v", Kids: 1},
			{Kind: api.NLen, Name: "a"},
			{Kind: api.NMiss, Kids: 1},
			{Kind: api.NBlock, Kids: 3},
			{Kind: api.NCall, Name: "r"}, {Kind: api.NCall, Name: "r"},
			{Kind: api.NInsert, Name: "a"},
		},
		Queues: []api.Queue{{Name: "a"}, {Name: "b", Ghost: true}},
		Vars:   []string{"v"},
		Rules:  []int{8},
		On:     []int{-1, -1},
		Miss:   12,
	}
	p := wantRight(t, exampleOne)
	if !same(p, want) {
		t.Errorf("%v; want %v", p, want)
	}
	for row, laid := range map[int]int{0: 22, 1: 1, 3: 4, 7: 4, 8: 3, 9: 2, 11: 11, 12: 10, 13: 4, 14: 4, 15: 1} {
		if got := names.Laid(p, row); got != laid {
			t.Errorf("Laid of row %d: %d; want %d", row, got, laid)
		}
	}
}

func TestExampleTwo(t *testing.T) {
	wantFault(t, "queue a ghost; var a = 0 in 0 .. 1;", api.ErrTwice, 2)
	wantFault(t, "on miss { set w = 1; }", api.ErrUnknown, 3)
	wantFault(t, "queue a resident; on miss { set a = 1; }", api.ErrOther, 4)
	wantFault(t, "rule r { call r; }", api.ErrUnknown, 3)
	wantFault(t, "var v = v in 0 .. 1;", api.ErrUnknown, 2)
}

func TestExampleThree(t *testing.T) {
	for _, kind := range []string{"resident", "ghost"} {
		wantFault(t, "queue a "+kind+"; on hit a { } on ghost a { }", api.ErrTwice, 4)
	}
}

// doubled are so many rules, each but the first with two calls of the one ahead.
func doubled(n int) string {
	text := "rule r1 { pass; } "
	for i := 2; i <= n; i++ {
		text += fmt.Sprintf("rule r%d { call r%d; call r%d; } ", i, i-1, i-1)
	}
	return text
}

func TestExampleFour(t *testing.T) {
	p := wantRight(t, doubled(15))
	for i, want := range []int{2, 7, 17, 37, 77, 157, 317, 637, 1277, 2557, 5117, 10237, 20477, 40957, 81917} {
		if got := names.Laid(p, p.Rules[i]); got != want {
			t.Errorf("Laid of rule %d: %d; want %d", i+1, got, want)
		}
	}
	wantLast(t, doubled(15)+"on miss { call r13; }", api.ErrLarge, 3)
	p = wantRight(t, doubled(15)+"on miss { call r12; }")
	if got := names.Laid(p, p.Miss); got != 10239 {
		t.Errorf("Laid of the miss: %d", got)
	}
}

// decls are a declaration for each kind of row that is one.
var decls = []struct {
	text string // $: the name
	word string
	rows int
}{
	{"queue $ resident; ", "queue", 1}, {"queue $ ghost; ", "queue", 1}, {"var $ = 0 in 0 .. 1; ", "var", 4}, {"tag $ in 1; ", "tag", 2}, {"rule $ { } ", "rule", 2},
}

func declared(i int, name string) string { return strings.ReplaceAll(decls[i].text, "$", name) }

func TestP701DeclaredTwice(t *testing.T) {
	for i, a := range decls {
		for j := range decls {
			wantFault(t, declared(i, "a")+declared(j, "a"), api.ErrTwice, 1+a.rows)
			wantFault(t, declared(i, "a")+"require true; "+declared(j, "b")+declared(i, "c")+declared(j, "a"), api.ErrTwice, 3+2*a.rows+decls[j].rows)
			wantRight(t, declared(i, "a")+declared(j, "b"))
			wantRight(t, declared(i, "a")+declared(j, "A")+declared(i, "aa"))
		}
		wantRight(t, declared(i, "p"))
		wantFault(t, declared(i, "p")+declared(i, "p"), api.ErrTwice, 1+a.rows)
	}
}

func TestP701TooMany(t *testing.T) {
	for i, d := range decls {
		most := mosts[d.word]
		text := ""
		for n := range most {
			text += declared(i, fmt.Sprint("n", n))
		}
		p := wantRight(t, text)
		if len(p.Queues)+len(p.Vars)+len(p.Tags)+len(p.Rules) != most {
			t.Errorf("%s: %v", d.text, p)
		}
		wantFault(t, text+declared(i, "more"), api.ErrMany, 1+most*d.rows)
		wantFault(t, text+declared(i, "more")+declared(i, "n0"), api.ErrMany, 1+most*d.rows)
		wantFault(t, text+declared(i, "n0")+declared(i, "more"), api.ErrTwice, 1+most*d.rows)
		for j, other := range decls {
			if other.word != d.word {
				wantRight(t, text+declared(j, "more"))
			} else {
				wantFault(t, text+declared(j, "more"), api.ErrMany, 1+most*d.rows)
			}
		}
	}
	mixed := strings.Repeat("queue r? resident; queue g? ghost; ", 8)
	for n := range 16 {
		mixed = strings.Replace(mixed, "?", fmt.Sprint(n), 1)
	}
	wantRight(t, mixed)
	wantFault(t, mixed+"queue more ghost;", api.ErrMany, 17)
}

// What is full is told where it is, even if a name is wrong later, and the other way round.
func TestP701FirstRow(t *testing.T) {
	tags := "tag a in 1; tag b in 1; tag c in 1; tag d in 1; "
	wantFault(t, tags+"tag e in v;", api.ErrMany, 9)
	wantFault(t, "tag f in v;"+tags, api.ErrUnknown, 2)
	wantFault(t, "tag a in a(x); queue a ghost;", api.ErrUnknown, 2)
	wantFault(t, "on hit q { call r; }", api.ErrUnknown, 1)
	wantFault(t, "queue q ghost; on hit q { call r; } on miss { call q; }", api.ErrUnknown, 4)
	wantFault(t, "queue q ghost; on miss { call q; } on hit q { call r; }", api.ErrOther, 4)
	wantFault(t, "queue q ghost; on hit q { } on ghost q { call r; }", api.ErrTwice, 4)
	wantFault(t, "queue q ghost; on hit q { call r; } on ghost q { }", api.ErrUnknown, 4)
	wantFault(t, "on miss { } on miss { call r; } on hit q { }", api.ErrTwice, 3)
	wantFault(t, "queue q ghost; on miss { mark back(r) q = q; }", api.ErrOther, 4)
	wantFault(t, "tag t in 1; on miss { mark back(r) t = q; }", api.ErrUnknown, 6)
	wantFault(t, "queue q ghost; on miss { shift q back r front; set q = 1; }", api.ErrUnknown, 5)
}

// namings are the rows that name things, with ? for the name.
var namings = []struct {
	kind int
	text string
	at   int // the row that names, from the first one of the text on
}{
	{api.NHit, "on hit ? { }", 0},
	{api.NGhost, "on ghost ? { }", 0},
	{api.NInsert, "on miss { insert ? front; }", 2},
	{api.NMove, "on miss { move ? back; }", 2},
	{api.NDrop, "on miss { drop ? front; }", 2},
	{api.NShift, "on miss { shift ? back kq front; }", 2},
	{api.NPlace, "on miss { shift kq back ? front; }", 3},
	{api.NEvict, "on miss { evict ? back; }", 2},
	{api.NEvict, "on miss { evict ? front to kq front; }", 2},
	{api.NPlace, "on miss { evict kq front to ? back; }", 3},
	{api.NEndOf, "on miss { mark back(?) kt = 1; }", 3},
	{api.NEndOf, "on miss { set kv = kt(front(?)); }", 4},
	{api.NLen, "require len(?) == 1;", 2},
	{api.NCap, "require cap(?) == 1;", 2},
	{api.NEmpty, "require empty(?);", 1},
	{api.NFull, "require full(?);", 1},
	{api.NAt, "require at(?);", 1},
	{api.NSet, "on miss { set ? = 1; }", 2},
	{api.NVarOf, "tag more in ?;", 1},
	{api.NVarOf, "var more = 1 in 2 .. ?;", 3},
	{api.NVarOf, "rule more { if ? == 1 { } }", 4},
	{api.NMark, "on miss { mark x ? = 1; }", 2},
	{api.NTagOf, "on miss { loop 1 while ?(x) == 1 { } }", 5},
	{api.NTagOf, "require !(?(back(kq)) < 1);", 3},
	{api.NCall, "rule more { call ?; }", 2},
	{api.NCall, "on miss { if true { } else if false { { call ?; } } }", 9},
}

func TestP701WhatARowNames(t *testing.T) {
	seen := map[int]bool{}
	const ahead = "queue kq ghost; var kv = 0 in 0 .. 1; tag kt in 1; rule kr { } "
	first := len(parsed(t, "policy p { "+ahead+"}"))
	for _, n := range namings {
		seen[n.kind] = true
		text := func(name string) string { return strings.ReplaceAll(n.text, "?", name) }
		wantFault(t, ahead+text("none"), api.ErrUnknown, first+n.at)
		wantFault(t, ahead+text("p"), api.ErrUnknown, first+n.at)
		for i, d := range decls {
			at := first + d.rows + n.at
			if d.word != mentions[n.kind] {
				wantFault(t, ahead+declared(i, "it")+text("it"), api.ErrOther, at)
				continue
			}
			p := wantRight(t, ahead+declared(i, "it")+text("it"))
			if row := p.Rows[at]; row.Kind != n.kind || row.Name != "it" || row.N != 1 {
				t.Errorf("%s: row %d: %v", text("it"), at, row)
			}
			p = wantRight(t, declared(i, "it")+ahead+declared(i, "last")+text("last"))
			if row := p.Rows[at+d.rows]; row.N != 2 {
				t.Errorf("%s: row %d: %v", text("last"), at+d.rows, row)
			}
		}
	}
	for kind := range mentions {
		if !seen[kind] {
			t.Errorf("no text for kind %d", kind)
		}
	}
}

// A name is known behind all of its declaring row's own, and not ahead.
func TestP701WhereNamesAreKnown(t *testing.T) {
	wantFault(t, "var v = 1 in v .. 1;", api.ErrUnknown, 3)
	wantFault(t, "var v = 1 in 0 .. v;", api.ErrUnknown, 4)
	wantFault(t, "var v = 1 in 0 .. -(1 + v);", api.ErrUnknown, 7)
	wantFault(t, "var v = len(v) in 0 .. 1;", api.ErrUnknown, 2)
	wantFault(t, "tag t in t(x);", api.ErrUnknown, 2)
	wantFault(t, "tag t in t;", api.ErrUnknown, 2)
	wantFault(t, "rule r { insert r front; }", api.ErrUnknown, 3)
	wantFault(t, "rule r { if true { { call r; } } }", api.ErrUnknown, 7)
	wantFault(t, "rule r { pass; pass; call r; }", api.ErrUnknown, 5)
	wantFault(t, "rule r { call s; } rule s { }", api.ErrUnknown, 3)
	wantFault(t, "require v == 1; var v = 1 in 0 .. 1;", api.ErrUnknown, 3)
	wantFault(t, "require empty(q); queue q ghost;", api.ErrUnknown, 2)
	wantFault(t, "rule r { set v = 1; } var v = 1 in 0 .. 1;", api.ErrUnknown, 3)
	wantRight(t, "var v = 1 in 0 .. 1; var w = v in v .. v;")
	wantRight(t, "rule r { } rule s { call r; call r; } rule t { call s; call r; } on miss { call t; }")
	wantRight(t, "queue q ghost; require empty(q); rule r { drop q back; } queue r2 resident; on miss { call r; insert r2 back; }")
	wantRight(t, "queue p ghost; rule r { drop p back; } on miss { call r; }")
}

func TestP701Events(t *testing.T) {
	for _, first := range []string{"hit", "ghost"} {
		for _, second := range []string{"hit", "ghost"} {
			wantFault(t, "queue a ghost; queue b ghost; on "+first+" a { } on miss { } on "+second+" a { }", api.ErrTwice, 7)
			wantRight(t, "queue a ghost; queue b ghost; on "+first+" a { } on "+second+" b { } on miss { }")
		}
	}
	wantFault(t, "on miss { } on miss { }", api.ErrTwice, 3)
	wantFault(t, "queue a ghost; on miss { pass; } on hit a { } on miss { }", api.ErrTwice, 7)
	p := wantRight(t, "queue a ghost; queue b ghost; queue c resident; var v = 0 in 0 .. 1; on hit c { pass; } on miss { } on ghost a { }")
	if !slices.Equal(p.On, []int{14, -1, 9}) || p.Miss != 12 || p.Rows[8].N != 2 || p.Rows[11].N != 0 || p.Rows[13].N != 0 {
		t.Errorf("%v", p)
	}
	p = wantRight(t, "queue a ghost; on hit a { }")
	if !slices.Equal(p.On, []int{3}) || p.Miss != -1 {
		t.Errorf("%v", p)
	}
}

func TestP701NothingDeclared(t *testing.T) {
	p := wantRight(t, "")
	if !same(p, api.Policy{Name: "p", Rows: []api.Row{{Kind: api.NPolicy, Name: "p"}}, Miss: -1}) || names.Laid(p, 0) != 1 {
		t.Errorf("%v", p)
	}
}

// passes are so many rows.
func passes(n int) string { return strings.Repeat("pass; ", n) }

func TestP701TooLarge(t *testing.T) {
	p := wantRight(t, "on miss { "+passes(api.MaxLaid-1)+"}")
	if names.Laid(p, p.Miss) != api.MaxLaid {
		t.Errorf("%d rows", names.Laid(p, p.Miss))
	}
	wantFault(t, "on miss { "+passes(api.MaxLaid)+"}", api.ErrLarge, 1)
	const a, b = 5000, 7000
	for _, on := range []string{"on hit q", "on ghost q"} {
		two := "queue q ghost; queue r ghost; " + on + " { " + passes(a-1) + "} on hit r { " + passes(b-1) + "} "
		wantRight(t, two)
		wantRight(t, two+"on miss { "+passes(api.MaxLaid-a-b-1)+"}")
		wantFault(t, two+"on miss { "+passes(api.MaxLaid-a-b)+"}", api.ErrLarge, 3+a+1+b+1)
		wantFault(t, "queue s ghost; "+two+"on miss { "+passes(api.MaxLaid-a-b)+"} on hit s { }", api.ErrLarge, 4+a+1+b+1)
		wantFault(t, "queue s ghost; "+two+"on miss { "+passes(api.MaxLaid-a-b-1)+"} on hit s { }", api.ErrLarge, 4+a+1+b+1+api.MaxLaid-a-b+1)
	}
	// What is in rules and requirements counts only where it is called.
	rule := "rule r { " + passes(7000) + "} rule s { " + passes(10000) + "} require 1" + strings.Repeat("+1", 9000) + " == 1; "
	wantRight(t, rule+"on miss { call r; call r; }")
	wantRight(t, rule+"on miss { call r; if true { call r; } "+passes(api.MaxLaid-2*7002-4)+"}")
	wantLast(t, rule+"on miss { call r; call r; call r; }", api.ErrLarge, 5)
	wantLast(t, rule+"on miss { call r; call s; }", api.ErrLarge, 4)
	wantLast(t, rule+"on miss { call r; if true { call r; } "+passes(api.MaxLaid-2*7002-3)+"}", api.ErrLarge, 7+api.MaxLaid-2*7002-3)
}

// Names are first, wherever they stand.
func TestP701TooLargeBehindNames(t *testing.T) {
	large := "queue q ghost; on miss { " + passes(api.MaxLaid) + "} "
	wantFault(t, large, api.ErrLarge, 2)
	wantLast(t, large+"on hit q { call r; }", api.ErrUnknown, 1)
	wantLast(t, large+"on hit q { call q; }", api.ErrOther, 1)
	wantLast(t, large+"on hit q { } on miss { }", api.ErrTwice, 2)
	// More than an int holds, if it were not cut off; an event of it is too large even so.
	wantLast(t, doubled(64)+"on miss { call r64; call r64; }", api.ErrLarge, 4)
	wantLast(t, "queue q ghost; "+doubled(64)+"on hit q { call r63; call r62; } on miss { call r64; call r64; }", api.ErrLarge, 8)
}

func TestP701NoTree(t *testing.T) {
	right := parsed(t, "policy p { "+exampleOne+" }")
	change := func(what string, do func(rows []api.Row) []api.Row) {
		t.Helper()
		rows := do(slices.Clone(right))
		want := gram.Check(rows)
		p, fault := names.Resolve(rows)
		if want == (api.Fault{}) || fault != want || !same(p, api.Policy{}) {
			t.Errorf("%s: %v, %v; want %v", what, fault, p, want)
		}
	}
	change("no rows", func([]api.Row) []api.Row { return nil })
	change("a row less", func(rows []api.Row) []api.Row { return rows[:len(rows)-1] })
	change("a row more", func(rows []api.Row) []api.Row { return append(rows, rows[1]) })
	change("a number where none is", func(rows []api.Row) []api.Row { rows[15].N = 1; return rows })
	change("a number too large", func(rows []api.Row) []api.Row { rows[4].N = api.MaxNum + 1; return rows })
	change("no name", func(rows []api.Row) []api.Row { rows[13].Name = ""; return rows })
	change("a kept word", func(rows []api.Row) []api.Row { rows[1].Name = "queue"; return rows })
	change("a name that is wrong ahead of it", func(rows []api.Row) []api.Row { rows[2].Name = "a"; rows[15].End = 2; return rows })
	deep := []api.Row{{Kind: api.NPolicy, Name: "p", Kids: 1}, {Kind: api.NRequire, Kids: 1}}
	deep = append(deep, slices.Repeat([]api.Row{{Kind: api.NNot, Kids: 1}}, 64)...)
	deep = append(deep, api.Row{Kind: api.NVarOf, Name: "unknown"})
	if _, fault := names.Resolve(deep); fault != (api.Fault{Err: api.ErrNest}) {
		t.Errorf("65 levels: %v", fault)
	}
	deep[2] = api.Row{Kind: api.NVarOf, Name: "unknown"}
	if _, fault := names.Resolve(deep[:3]); fault != (api.Fault{Err: api.ErrUnknown, At: 2}) {
		t.Errorf("two levels: %v", fault)
	}
}

// Numbers that are written stay, and so do ends.
func TestP701OtherRowsStay(t *testing.T) {
	text := "policy p { queue q ghost; queue r resident; tag s in 7; tag t in 9; var v = 5 in 3 .. 1073741824; on miss { if 6 < 8 { mark back(r) t = 4; } evict r back to q back; } }"
	rows := parsed(t, text)
	p, fault := names.Resolve(rows)
	if fault != (api.Fault{}) {
		t.Fatal(fault)
	}
	changed := map[int]int{}
	for at, row := range p.Rows {
		if row.N != rows[at].N {
			changed[at] = row.N
		}
		row.N = rows[at].N
		if row != rows[at] {
			t.Errorf("row %d: %v; it was %v", at, row, rows[at])
		}
	}
	want := map[int]int{2: 1, 5: 1, 18: 1, 19: 1, 21: 1}
	if fmt.Sprint(changed) != fmt.Sprint(want) {
		t.Errorf("other numbers at %v; want %v", changed, want)
	}
}
