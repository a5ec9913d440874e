package typed_test

import (
	"fmt"
	"math"
	"slices"
	"testing"

	"winnow/api"
	"winnow/gram"
	"winnow/names"
	"winnow/typed"
)

// whole is the policy of a text.
func whole(t *testing.T, text string) api.Policy {
	t.Helper()
	rows, _, fault := gram.Parse([]byte(text))
	if fault != (api.Fault{}) {
		t.Fatalf("%.300s: %v", text, fault)
	}
	p, fault := names.Resolve(rows)
	if fault != (api.Fault{}) {
		t.Fatalf("%.300s: %v", text, fault)
	}
	return p
}

// things stand in the policies of most tests: row 1 is the queue a, row 2 the queue b.
const things = "policy p { queue a resident; queue b ghost; "

// usual are the chapter's capacities.
func usual() api.Caps { return api.Caps{Size: 10, Queues: []int{4, 6}} }

// policy is that of the chapter's queues and what stands behind them.
func policy(t *testing.T, inner string) api.Policy {
	t.Helper()
	return whole(t, things+inner+" }")
}

// row is the number of the row of that kind, so many behind the first of them.
func row(t *testing.T, p api.Policy, kind, nth int) int {
	t.Helper()
	for at, row := range p.Rows {
		if row.Kind != kind {
			continue
		}
		if nth == 0 {
			return at
		}
		nth--
	}
	t.Fatalf("no row of kind %d", kind)
	return 0
}

func sameTyped(x, y api.Typed) bool {
	return slices.Equal(x.Vars, y.Vars) && slices.Equal(x.Tags, y.Tags) && slices.Equal(x.Rounds, y.Rounds)
}

// wantFault wants one of Check, at a row of that kind, and nothing beside it.
func wantFault(t *testing.T, inner string, err api.Errno, kind, nth int) {
	t.Helper()
	p := policy(t, inner)
	want := api.Fault{Err: err, At: row(t, p, kind, nth)}
	if got, fault := typed.Check(p, usual()); fault != want || !sameTyped(got, api.Typed{}) {
		t.Errorf("%s: %v, %v; want %v", inner, fault, got, want)
	}
}

// wantTypesFault wants one of Types, and so of all calls that ask for it.
func wantTypesFault(t *testing.T, inner string, err api.Errno, kind, nth int) {
	t.Helper()
	p := policy(t, inner)
	want := api.Fault{Err: err, At: row(t, p, kind, nth)}
	if types, fault := typed.Types(p); fault != want || len(types) != 0 {
		t.Errorf("%s: Types: %v, %v; want %v", inner, fault, types, want)
	}
	for _, c := range []api.Caps{usual(), {}, {Size: 1 << 30}} {
		if n, fault := typed.Const(p, c, len(p.Rows)-1); fault != want || n != 0 {
			t.Errorf("%s: Const: %v, %v; want %v", inner, fault, n, want)
		}
		if got, fault := typed.Check(p, c); fault != want || !sameTyped(got, api.Typed{}) {
			t.Errorf("%s: Check: %v, %v; want %v", inner, fault, got, want)
		}
	}
	if fault := typed.Fit(p, api.Caps{Size: 5, Queues: slices.Repeat([]int{3}, len(p.Queues))}); fault != (api.Fault{}) {
		t.Errorf("%s: Fit: %v", inner, fault)
	}
}

// wantRight wants a policy that Types takes.
func wantRight(t *testing.T, inner string) {
	t.Helper()
	p := policy(t, inner)
	if types, fault := typed.Types(p); fault != (api.Fault{}) || len(types) != len(p.Rows) {
		t.Errorf("%s: %v, %v", inner, fault, types)
	}
}

// wantTyped wants what Check tells; rounds are those of the loops, in their order.
func wantTyped(t *testing.T, inner string, vars []api.Var, tags []int, rounds ...int) {
	t.Helper()
	p := policy(t, inner)
	want := api.Typed{Vars: vars, Tags: tags, Rounds: make([]int, len(p.Rows))}
	for nth, n := range rounds {
		want.Rounds[row(t, p, api.NLoop, nth)] = n
	}
	if got, fault := typed.Check(p, usual()); fault != (api.Fault{}) || !sameTyped(got, want) {
		t.Errorf("%s: %v, %v; want %v", inner, fault, got, want)
	}
}

func TestExampleOne(t *testing.T) {
	wantTyped(t, "var p = size / 4 in 0 .. cap(b);", []api.Var{{Init: 2, Lo: 0, Hi: 6}}, nil)
	wantFault(t, "var p = 7 in 0 .. cap(b);", api.ErrRange, api.NVar, 0)
	wantFault(t, "var p = len(a) in 0 .. 9;", api.ErrConst, api.NLen, 0)
	wantFault(t, "var p = true in 0 .. 9;", api.ErrType, api.NTrue, 0)
}

func TestExampleTwo(t *testing.T) {
	wantTyped(t, "require cap(a) + cap(b) == size && 1 < 2;", nil, nil)
	wantFault(t, "require size;", api.ErrType, api.NSize, 0)
	wantFault(t, "require 1 == true;", api.ErrType, api.NTrue, 0)
	wantTyped(t, "require true == (1 < 2);", nil, nil)
}

func TestExampleThree(t *testing.T) {
	wantFault(t, "tag t in 0;", api.ErrRange, api.NTag, 0)
	wantFault(t, "tag t in 256;", api.ErrRange, api.NTag, 0)
	wantFault(t, "on miss { loop 0 - 1 while true { } }", api.ErrRange, api.NLoop, 0)
	wantFault(t, "on miss { loop 4194305 while true { } }", api.ErrRange, api.NLoop, 0)
	wantTyped(t, "on miss { loop 2 * cap(a) while empty(a) { } }", nil, nil, 8)
}

func TestExampleFour(t *testing.T) {
	wantFault(t, "on hit b { }", api.ErrKind, api.NHit, 0)
	wantFault(t, "on miss { move b front; }", api.ErrKind, api.NMove, 0)
	wantFault(t, "on miss { evict b back; }", api.ErrKind, api.NEvict, 0)
	wantFault(t, "on miss { drop a back; }", api.ErrKind, api.NDrop, 0)
	wantFault(t, "on miss { shift a back b front; }", api.ErrKind, api.NPlace, 0)
	wantTyped(t, "on miss { insert b front; }", nil, nil)
}

func TestExampleFive(t *testing.T) {
	for _, c := range [][3]int{{-7, 2, -4}, {7, -2, -4}, {5, 0, 0}} {
		if got := typed.Div(c[0], c[1]); got != c[2] {
			t.Errorf("Div(%d, %d): %d", c[0], c[1], got)
		}
	}
	if got := typed.Clamp(1 << 40); got != 1073741824 {
		t.Errorf("Clamp: %d", got)
	}
}

func TestExampleSix(t *testing.T) {
	p := policy(t, "")
	for _, c := range []api.Caps{{Size: 10, Queues: []int{4}}, {Size: 10, Queues: []int{11, 6}}, {Size: 0, Queues: []int{4, 6}}} {
		wantUnfit(t, p, c)
	}
}

// wantUnfit wants Fit's fault of all calls that ask for it.
func wantUnfit(t *testing.T, p api.Policy, c api.Caps) {
	t.Helper()
	want := api.Fault{Err: api.ErrCaps}
	if fault := typed.Fit(p, c); fault != want {
		t.Errorf("Fit of %v: %v", c, fault)
	}
	if got, fault := typed.Check(p, c); fault != want || !sameTyped(got, api.Typed{}) {
		t.Errorf("Check of %v: %v, %v", c, fault, got)
	}
	for _, at := range []int{-1, 0, 1, len(p.Rows)} {
		if n, fault := typed.Const(p, c, at); fault != want || n != 0 {
			t.Errorf("Const of %v, row %d: %v, %v", c, at, fault, n)
		}
	}
}

// numbers are expressions of the type Num, bools of Bool: one of each kind of row, and which kind it is.
var numbers = []struct {
	text     string
	kind     int
	constant bool
}{
	{"1", api.NNum, true}, {"v", api.NVarOf, false}, {"len(a)", api.NLen, false}, {"cap(a)", api.NCap, true}, {"size", api.NSize, true}, {"total", api.NTotal, false},
	{"t(x)", api.NTagOf, false}, {"t(back(a))", api.NTagOf, false}, {"min(1, 2)", api.NMin, true}, {"max(1, 2)", api.NMax, true}, {"(-1)", api.NNeg, true}, {"(1 * 2)", api.NMul, true},
	{"(1 / 2)", api.NDiv, true}, {"(1 + 2)", api.NAdd, true}, {"(1 - 2)", api.NSub, true},
}

var bools = []struct {
	text     string
	kind     int
	constant bool
}{
	{"true", api.NTrue, true}, {"false", api.NFalse, true}, {"empty(a)", api.NEmpty, false}, {"full(a)", api.NFull, false}, {"at(a)", api.NAt, false}, {"(!true)", api.NNot, true},
	{"(1 == 2)", api.NEq, true}, {"(1 != 2)", api.NNe, true}, {"(1 < 2)", api.NLt, true}, {"(1 <= 2)", api.NLe, true}, {"(1 > 2)", api.NGt, true}, {"(1 >= 2)", api.NGe, true},
	{"(true && false)", api.NAnd, true}, {"(true || false)", api.NOr, true},
}

// known are a var and a tag for expressions.
const known = "var v = 0 in 0 .. 9; tag t in 3; "

// asking are texts with a place for an expression of that type; constant: it must be one.
var asking = []struct {
	text     string
	number   bool
	constant bool
}{
	{"var w = %s in 0 .. 9;", true, true}, {"var w = 0 in %s .. 9;", true, true}, {"var w = 0 in 0 .. %s;", true, true}, {"tag u in %s;", true, true}, {"require %s;", false, true},
	{"on miss { set v = %s; }", true, false}, {"on miss { mark x t = %s; }", true, false}, {"on miss { mark back(a) t = %s; }", true, false}, {"rule r { set v = %s; }", true, false},
	{"on miss { loop %s while full(a) { } }", true, true}, {"on miss { loop 1 while %s { } }", false, false}, {"rule r { loop %s while full(a) { } }", true, true}, {"rule r { loop 1 while %s { } }", false, false},
	{"on miss { if %s { } }", false, false}, {"on miss { if true { } else if %s { } }", false, false}, {"on miss { if true { if %s { } } else { } }", false, false},
	{"on miss { set v = -%s; }", true, false}, {"on miss { set v = min(%s, v); }", true, false}, {"on miss { set v = min(v, %s); }", true, false}, {"on miss { set v = max(%s, v); }", true, false}, {"on miss { set v = max(v, %s); }", true, false},
	{"on miss { set v = %s * v; }", true, false}, {"on miss { set v = v * %s; }", true, false}, {"on miss { set v = %s / v; }", true, false}, {"on miss { set v = v / %s; }", true, false},
	{"on miss { set v = %s + v; }", true, false}, {"on miss { set v = v + %s; }", true, false}, {"on miss { set v = %s - v; }", true, false}, {"on miss { set v = v - %s; }", true, false},
	{"on miss { if %s < v { } }", true, false}, {"on miss { if v < %s { } }", true, false}, {"on miss { if %s <= v { } }", true, false}, {"on miss { if v <= %s { } }", true, false},
	{"on miss { if %s > v { } }", true, false}, {"on miss { if v > %s { } }", true, false}, {"on miss { if %s >= v { } }", true, false}, {"on miss { if v >= %s { } }", true, false},
	{"on miss { if !%s { } }", false, false}, {"on miss { if %s && at(a) { } }", false, false}, {"on miss { if at(a) && %s { } }", false, false}, {"on miss { if %s || at(a) { } }", false, false}, {"on miss { if at(a) || %s { } }", false, false},
	{"on miss { if v == %s { } }", true, false}, {"on miss { if at(a) == %s { } }", false, false}, {"on miss { if v != %s { } }", true, false}, {"on miss { if at(a) != %s { } }", false, false},
	{"require 1 == %s;", true, true}, {"require true != %s;", false, true}, {"require !(%s && true);", false, true}, {"tag u in min(3, 2 - %s);", true, true}, {"on miss { loop 3 * (1 + %s) while at(a) { } }", true, true},
}

// last is the last row of a kind.
func last(p api.Policy, kind int) int {
	at := len(p.Rows) - 1
	for p.Rows[at].Kind != kind {
		at--
	}
	return at
}

// wantPut wants the fault of an expression's row, put where another one stands too.
func wantPut(t *testing.T, text, expr string, kind int, err api.Errno) {
	t.Helper()
	inner := known + fmt.Sprintf(text, expr)
	// The row is found by another one in its place: but for one more queue, the same rows stand ahead of both.
	with := whole(t, things+"queue here resident; "+known+fmt.Sprintf(text, "cap(here)")+" }")
	at := slices.IndexFunc(with.Rows, func(row api.Row) bool { return row.Kind == api.NCap }) - 1
	p := policy(t, inner)
	want := api.Fault{}
	if err != api.OK {
		want = api.Fault{Err: err, At: at}
	}
	if p.Rows[at].Kind != kind {
		t.Fatalf("%s: row %d is of kind %d", inner, at, p.Rows[at].Kind)
	}
	if types, fault := typed.Types(p); fault != want || err != api.OK && len(types) != 0 {
		t.Errorf("%s: %v, %v; want %v", inner, fault, types, want)
	}
}

// Each kind of expression in each place that asks for a type.
func TestP801Asked(t *testing.T) {
	errOf := func(right, constant, must bool) api.Errno {
		switch {
		case !right:
			return api.ErrType
		case must && !constant:
			return api.ErrConst
		}
		return api.OK
	}
	for _, place := range asking {
		for _, x := range numbers {
			wantPut(t, place.text, x.text, x.kind, errOf(place.number, x.constant, place.constant))
		}
		for _, x := range bools {
			wantPut(t, place.text, x.text, x.kind, errOf(!place.number, x.constant, place.constant))
		}
	}
}

// Where no type is asked for: the first kid of == and !=.
func TestP801NotAsked(t *testing.T) {
	for _, sign := range []string{"==", "!="} {
		for _, x := range numbers {
			wantPut(t, "on miss { if %s "+sign+" v { } }", x.text, x.kind, api.OK)
			inner := known + "on miss { if " + x.text + " " + sign + " at(b) { } }"
			p := policy(t, inner)
			if _, fault := typed.Types(p); fault != (api.Fault{Err: api.ErrType, At: last(p, api.NAt)}) {
				t.Errorf("%s: %v", inner, fault)
			}
		}
		for _, x := range bools {
			wantPut(t, "on miss { if %s "+sign+" at(b) { } }", x.text, x.kind, api.OK)
			inner := known + "on miss { if " + x.text + " " + sign + " total { } }"
			p := policy(t, inner)
			if _, fault := typed.Types(p); fault != (api.Fault{Err: api.ErrType, At: last(p, api.NTotal)}) {
				t.Errorf("%s: %v", inner, fault)
			}
		}
	}
}

func TestP801Types(t *testing.T) {
	p := policy(t, `tag t in 3; var v = 1 in -2 .. cap(a); require true != (size < 3); rule r { mark x t = t(back(a)); pass; forget; }
		on hit a { { move a front; } } on ghost b { if at(b) { drop b back; } else if !full(a) { shift b back b front; } evict a back to b front; }
		on miss { loop 3 while empty(a) && total >= len(a) || false { set v = min(v, 1) * 2 / 3 + max(1, 2) - 1; } call r; evict a front; insert a back; }`)
	types, fault := typed.Types(p)
	if fault != (api.Fault{}) || len(types) != len(p.Rows) {
		t.Fatalf("%v, %v", fault, types)
	}
	kinds := map[int]int{}
	for _, x := range numbers {
		kinds[x.kind] = typed.Num
	}
	for _, x := range bools {
		kinds[x.kind] = typed.Bool
	}
	for at, row := range p.Rows {
		if types[at] != kinds[row.Kind] {
			t.Errorf("row %d, %v: %d", at, row, types[at])
		}
	}
	if typed.None != 0 || typed.Num != 1 || typed.Bool != 2 {
		t.Error("the types' numbers")
	}
}

func TestP801Kinds(t *testing.T) {
	for _, inner := range []string{
		"on hit a { }", "on ghost b { }", "on miss { move a front; }", "on miss { evict a back; }", "on miss { drop b back; }", "on miss { evict a back to b front; }",
		"on miss { shift a back a front; }", "on miss { shift b back b front; }", "on miss { insert a front; insert b back; }", "queue c resident; on miss { shift a back c front; }",
		"queue c ghost; on miss { shift c back b front; evict a front to c back; }", "rule r { drop b back; evict a back to b front; }",
		"tag t in 3; on miss { mark front(a) t = len(a); mark front(b) t = len(b); if full(a) || full(b) || empty(a) || empty(b) || at(a) || at(b) { } }", "tag t in 3; on miss { if t(front(b)) == t(front(a)) && cap(a) == cap(b) { } }",
	} {
		wantRight(t, inner)
	}
	for _, c := range []struct {
		inner string
		kind  int
		nth   int
	}{
		{"on hit b { }", api.NHit, 0}, {"on ghost a { }", api.NGhost, 0}, {"on miss { move b front; }", api.NMove, 0}, {"on miss { evict b back; }", api.NEvict, 0}, {"on miss { drop a front; }", api.NDrop, 0},
		{"on miss { evict a back to a front; }", api.NPlace, 0}, {"on miss { shift a back b front; }", api.NPlace, 0}, {"on miss { shift b back a front; }", api.NPlace, 0},
		{"on miss { evict b back to b front; }", api.NEvict, 0}, {"on miss { evict b back to a front; }", api.NEvict, 0}, {"on miss { drop b back; drop a back; }", api.NDrop, 1},
		{"on hit a { } on ghost b { } on miss { shift a back a front; shift b back a front; }", api.NPlace, 1}, {"on miss { evict a back to b front; evict a back to a front; }", api.NPlace, 1},
		{"rule r { move b back; } on miss { call r; }", api.NMove, 0}, {"queue c resident; queue d ghost; on miss { evict c back to a front; }", api.NPlace, 0}, {"queue c resident; on miss { shift b back c front; }", api.NPlace, 0},
		{"queue c resident; queue d ghost; on miss { evict d back; }", api.NEvict, 0}, {"queue c resident; on ghost c { }", api.NGhost, 0}, {"queue c ghost; on hit c { }", api.NHit, 0},
	} {
		wantTypesFault(t, c.inner, api.ErrKind, c.kind, c.nth)
	}
}

// The first row that has a fault is told, whatever faults others have; of one row ErrType ahead of ErrConst.
func TestP801Order(t *testing.T) {
	for _, c := range []struct {
		inner string
		err   api.Errno
		kind  int
		nth   int
	}{
		{"var p = empty(a) in 0 .. 9;", api.ErrType, api.NEmpty, 0}, {"require len(a);", api.ErrType, api.NLen, 0}, {"require full(a) == 1;", api.ErrConst, api.NFull, 0}, {"require 1 == full(a);", api.ErrType, api.NFull, 0},
		{"require total < true;", api.ErrConst, api.NTotal, 0}, {"require true < total;", api.ErrType, api.NTrue, 0}, {"on hit b { if 1 { } }", api.ErrKind, api.NHit, 0}, {"on miss { if 1 { drop a back; } }", api.ErrType, api.NNum, 0},
		{"on miss { drop a back; if 1 { } }", api.ErrKind, api.NDrop, 0}, {"on miss { loop total while 1 { drop a back; } }", api.ErrConst, api.NTotal, 0}, {"on miss { loop 1 while total { drop a back; } }", api.ErrType, api.NTotal, 0},
		{"on miss { loop 1 while true { drop a back; } }", api.ErrKind, api.NDrop, 0}, {"tag t in 1; tag u in t(front(a));", api.ErrConst, api.NTagOf, 0}, {"tag t in 1; require t(front(a));", api.ErrType, api.NTagOf, 0},
		{"require !1 || size;", api.ErrType, api.NNum, 0}, {"require !true || size;", api.ErrType, api.NSize, 0}, {"require (1 == 2) == 3;", api.ErrType, api.NNum, 2}, {"require (1 == true) == 3;", api.ErrType, api.NTrue, 0},
		{"var v = 0 in 0 .. 9; var w = v in 0 .. 9;", api.ErrConst, api.NVarOf, 0}, {"var v = 0 in 0 .. 9; var w = 0 in 0 .. 9 + v;", api.ErrConst, api.NVarOf, 0}, {"var v = 0 in true .. false;", api.ErrType, api.NTrue, 0}, {"var v = 0 in 1 .. false;", api.ErrType, api.NFalse, 0},
		{"rule r { loop len(b) while true { } } require 1;", api.ErrConst, api.NLen, 0},
	} {
		wantTypesFault(t, c.inner, c.err, c.kind, c.nth)
	}
}

// What follows a constant need not be one.
func TestP801BehindConstants(t *testing.T) {
	for _, inner := range []string{
		"var v = 0 in 0 .. 9; on miss { set v = v; }", "require true; on miss { if full(a) { } }", "tag t in 1; on miss { if t(x) == 1 { } }",
		"on miss { loop 1 + 2 while full(a) { if at(a) { } } }", "on miss { loop 1 while len(a) < total { loop 2 while empty(b) { } } }", "rule r { loop 1 while true { } } on miss { if total == len(a) { } }",
	} {
		wantRight(t, inner)
	}
}

func TestP801NoPolicies(t *testing.T) {
	right := policy(t, "var v = 0 in 0 .. 9; on miss { set v = true; }")
	other := right
	other.Name = "q"
	rows := right
	rows.Rows = slices.Clone(right.Rows)
	rows.Rows[1].N = 5
	for _, p := range []api.Policy{{}, {Miss: -1}, other, rows} {
		want := api.Fault{Err: api.ErrShape}
		if types, fault := typed.Types(p); fault != want || len(types) != 0 {
			t.Errorf("Types: %v, %v", fault, types)
		}
		for _, c := range []api.Caps{usual(), {}} {
			if fault := typed.Fit(p, c); fault != want {
				t.Errorf("Fit: %v", fault)
			}
			if got, fault := typed.Check(p, c); fault != want || !sameTyped(got, api.Typed{}) {
				t.Errorf("Check: %v, %v", fault, got)
			}
			for _, at := range []int{-1, 0, 4} {
				if n, fault := typed.Const(p, c, at); fault != want || n != 0 {
					t.Errorf("Const: %v, %v", fault, n)
				}
			}
		}
	}
}

func TestP802Fit(t *testing.T) {
	const most = 1 << 20
	two, none := policy(t, ""), whole(t, "policy p { }")
	four := policy(t, "queue c resident; queue d ghost;")
	many := whole(t, "policy p { queue a resident; queue b resident; queue c resident; queue d resident; queue e resident; queue f ghost; queue g ghost; queue h ghost; queue i ghost; }")
	ghosts := whole(t, "policy p { queue a ghost; queue b ghost; queue c ghost; queue d ghost; queue e ghost; }")
	for _, c := range []struct {
		p      api.Policy
		size   int
		queues []int
		fits   bool
	}{
		{two, 10, []int{4, 6}, true}, {two, 1, []int{1, 1}, true}, {two, 0, []int{1, 1}, false}, {two, -1, []int{1, 1}, false}, {two, 4, []int{4, 6}, true}, {two, 3, []int{4, 6}, false},
		{two, most, []int{most, most}, true}, {two, most + 1, []int{1, 1}, false}, {two, most, []int{most + 1, 1}, false}, {two, most, []int{1, most + 1}, false}, {two, 1, []int{1, most}, true},
		{two, 10, []int{0, 1}, false}, {two, 10, []int{1, 0}, false}, {two, 10, []int{-1, 1}, false}, {two, 10, []int{1, -1}, false}, {two, 10, nil, false}, {two, 10, []int{4}, false}, {two, 10, []int{4, 6, 1}, false},
		{two, math.MaxInt, []int{1, 1}, false}, {two, math.MinInt, []int{1, 1}, false}, {two, 10, []int{math.MinInt, 1}, false}, {two, 10, []int{1, math.MinInt}, false}, {two, 10, []int{1, math.MaxInt}, false},
		{none, 1, nil, true}, {none, most, []int{}, true}, {none, 1, []int{1}, false}, {none, 0, nil, false}, {none, most + 1, nil, false},
		{four, 10, []int{10, 1000, 10, 1000}, true}, {four, 10, []int{10, 1000, 11, 1000}, false}, {four, 10, []int{11, 1000, 10, 1000}, false}, {four, 10, []int{1, 1000, 1, 1000, 1}, false},
		{many, most, []int{most, most, most, most, most, most, most, most, 1}, false}, {many, 1, []int{1, 1, 1, 1, 1, most, most, most, most}, false}, {many, 1, []int{1, 1, 1, 1, 1, most, most, most, most - 1}, true},
		{many, 5, []int{1, 1, 1, 1, 1, most, most, most, most - 5}, true}, {many, 5, []int{1, 1, 1, 1, 1, most, most, most, most - 4}, false}, {many, most, []int{1, 1, 1, 1, 1, most, most, most, most - 5}, true},
		{many, most, []int{1, 1, 1, 1, 1, most, most, most, most - 4}, false}, {many, 4, []int{1, 1, 1, 1, 1, most, most, most, most - 4}, true}, {many, 4, []int{4, 4, 4, 4, 4, most, most, most, most - 4}, true},
		{many, most, []int{most, most, most, most, most, most, most, most - 1, 1}, true}, {many, most, []int{most, most, most, most, most, most, most, most - 1, 2}, false},
		{ghosts, 1, []int{most, most, most, most - 1, 1}, true}, {ghosts, 1, []int{most, most, most, most, 1}, false}, {ghosts, most, []int{1, 1, 1, 1, 1}, true},
	} {
		caps := api.Caps{Size: c.size, Queues: c.queues}
		if !c.fits {
			wantUnfit(t, c.p, caps)
			continue
		}
		if fault := typed.Fit(c.p, caps); fault != (api.Fault{}) {
			t.Errorf("Fit of %v: %v", caps, fault)
		}
		if _, fault := typed.Check(c.p, caps); fault != (api.Fault{}) {
			t.Errorf("Check of %v: %v", caps, fault)
		}
	}
}

func TestP803Clamp(t *testing.T) {
	const most = 1 << 30
	for _, c := range [][2]int{
		{0, 0}, {5, 5}, {-5, -5}, {most, most}, {most + 1, most}, {most - 1, most - 1}, {-most, -most}, {-most - 1, -most}, {-most + 1, -most + 1},
		{math.MaxInt, most}, {math.MinInt, -most}, {1 << 31, most}, {-1 << 31, -most}, {1 << 32, most}, {-1 << 32, -most},
	} {
		if got := typed.Clamp(c[0]); got != c[1] {
			t.Errorf("Clamp(%d): %d", c[0], got)
		}
	}
}

func TestP803Div(t *testing.T) {
	const most = 1 << 30
	for _, c := range [][3]int{
		{7, 2, 3}, {-7, 2, -4}, {7, -2, -4}, {-7, -2, 3}, {6, 3, 2}, {-6, 3, -2}, {6, -3, -2}, {-6, -3, 2}, {0, 5, 0}, {0, -5, 0}, {5, 0, 0}, {0, 0, 0}, {-5, 0, 0}, {1, 2, 0}, {-1, 2, -1}, {1, -2, -1}, {-1, -2, 0},
		{most, 1, most}, {most + 1, 1, most}, {-most - 1, 1, -most}, {most, -1, -most}, {-most, -1, most}, {most + 1, -1, -most}, {-most - 1, -1, most}, {5, -1, -5}, {-5, -1, 5}, {0, -1, 0}, {5, 1, 5},
		{math.MinInt, -1, most}, {math.MinInt, 1, -most}, {math.MaxInt, -1, -most}, {math.MaxInt, 1, most}, {math.MinInt, math.MinInt, 1}, {math.MaxInt, math.MaxInt, 1}, {math.MinInt, math.MaxInt, -2}, {math.MaxInt, math.MinInt, -1},
		{math.MinInt, 0, 0}, {math.MaxInt, 0, 0}, {1, math.MinInt, -1}, {-1, math.MinInt, 0}, {1, math.MaxInt, 0}, {-1, math.MaxInt, -1}, {math.MinInt, 2, -most}, {math.MinInt, -2, most}, {math.MaxInt, 3, most},
		{math.MinInt, 1 << 33, -most}, {math.MinInt + 1, 1 << 33, -most}, {math.MinInt, 1 << 34, -1 << 29}, {math.MaxInt, 1 << 33, most - 1}, {math.MinInt, -1 << 33, most}, {math.MinInt, 1<<33 + 1, -most}, {math.MinInt, 1<<33 + 8, -most}, {math.MinInt, 1<<33 + 9, -most + 1},
	} {
		if got := typed.Div(c[0], c[1]); got != c[2] {
			t.Errorf("Div(%d, %d): %d; want %d", c[0], c[1], got, c[2])
		}
	}
}

// wantConst wants an expression's number, as the expression of a requirement and in a doing.
func wantConst(t *testing.T, expr string, number bool, want int) {
	t.Helper()
	texts := []string{"require " + expr + ";", "on miss { if " + expr + " { } }"}
	if number {
		texts = []string{"var v = " + expr + " in 0 .. 9;", "tag t in " + expr + ";", "on miss { loop " + expr + " while full(a) { } }", "var v = 0 in 0 .. 9; rule r { set v = " + expr + "; }"}
	}
	for _, text := range texts {
		p := policy(t, text)
		at := slices.IndexFunc(p.Rows, func(row api.Row) bool {
			return row.Kind == api.NRequire || row.Kind == api.NIf || row.Kind == api.NTag || row.Kind == api.NLoop || row.Kind == api.NSet
		})
		if at < 0 {
			at = row(t, p, api.NVar, 0)
		}
		if n, fault := typed.Const(p, usual(), at+1); fault != (api.Fault{}) || n != want {
			t.Errorf("%s: %v, %v; want %d", text, fault, n, want)
		}
	}
}

func TestP804Numbers(t *testing.T) {
	const most = 1 << 30
	for _, c := range []struct {
		expr string
		want int
	}{
		{"0", 0}, {"7", 7}, {"1073741824", most}, {"cap(a)", 4}, {"cap(b)", 6}, {"size", 10}, {"min(3, 5)", 3}, {"min(5, 3)", 3}, {"min(-1, 1)", -1}, {"max(3, 5)", 5}, {"max(5, 3)", 5}, {"max(-1, 1)", 1}, {"min(2, 2)", 2},
		{"-5", -5}, {"--5", 5}, {"-0", 0}, {"-1073741824", -most}, {"3 * 4", 12}, {"-3 * 4", -12}, {"-3 * -4", 12}, {"7 / 2", 3}, {"-7 / 2", -4}, {"7 / -2", -4}, {"7 / 0", 0}, {"-(7 / 2)", -3}, {"3 + 4", 7}, {"3 - 4", -1}, {"1 - 2 - 3", -4}, {"1 - (2 - 3)", 2},
		{"2 + 3 * 4", 14}, {"(2 + 3) * 4", 20}, {"100 / 10 / 5", 2}, {"100 / (10 / 5)", 50}, {"7 / 2 * 2", 6}, {"2 * 7 / 2", 7}, {"size / cap(a) - cap(b)", -4}, {"cap(a) + cap(b) - size", 0},
		{"1073741824 + 1", most}, {"-1073741824 - 1", -most}, {"1073741824 * 1073741824", most}, {"-1073741824 * 1073741824", -most}, {"-1073741824 * -1073741824", most}, {"1073741824 + 1073741824 - 1073741824", 0},
		{"1073741824 - (0 - 1073741824)", most}, {"32768 * 32768", most}, {"32768 * 32767", 1073709056}, {"1073741824 * 2 / 2", most / 2}, {"1073741824 / -1", -most}, {"-1073741824 / -1", most}, {"-(0 - 1073741824)", most}, {"1073741823 + 1", most}, {"1073741823 + 2", most},
		{"max(min(size, 3), cap(a)) * 2", 8}, {"min(max(1, 2), max(3, 4))", 2},
	} {
		wantConst(t, c.expr, true, c.want)
	}
}

func TestP804Bools(t *testing.T) {
	for _, c := range []struct {
		expr string
		want int
	}{
		{"true", 1}, {"false", 0}, {"!true", 0}, {"!false", 1}, {"!!true", 1}, {"1 == 1", 1}, {"1 == 2", 0}, {"1 != 1", 0}, {"1 != 2", 1}, {"true == true", 1}, {"true == false", 0}, {"false == false", 1}, {"true != true", 0}, {"true != false", 1},
		{"1 < 2", 1}, {"2 < 2", 0}, {"3 < 2", 0}, {"1 <= 2", 1}, {"2 <= 2", 1}, {"3 <= 2", 0}, {"1 > 2", 0}, {"2 > 2", 0}, {"3 > 2", 1}, {"1 >= 2", 0}, {"2 >= 2", 1}, {"3 >= 2", 1}, {"-1 < 0", 1},
		{"true && true", 1}, {"true && false", 0}, {"false && true", 0}, {"false && false", 0}, {"true || true", 1}, {"true || false", 1}, {"false || true", 1}, {"false || false", 0},
		{"true || true && false", 1}, {"(true || true) && false", 0}, {"!(1 < 2) || cap(a) == 4", 1}, {"(1 < 2) == (3 < 4)", 1}, {"(1 < 2) == (4 < 3)", 0}, {"(1 < 2) != !true", 1}, {"size == cap(a) + cap(b)", 1},
	} {
		wantConst(t, c.expr, false, c.want)
	}
}

// Each row that has no number, and each one that is no number of a row.
func TestP804Refused(t *testing.T) {
	p := policy(t, `tag t in 3; var v = 1 in 0 .. cap(a); require size > 1; rule r { mark x t = t(back(a)) + 1; pass; forget; } on hit a { { move a front; } } on ghost b { if at(b) { drop b back; } else if !full(a) { shift b back b front; } evict a back to b front; }
		on miss { loop 3 while empty(a) && total >= len(a) || false { set v = min(v, 1) * 2 / 3 + max(1, 2) - 1; } call r; evict a front; insert a back; }`)
	types, _ := typed.Types(p)
	refused := 0
	for at := range p.Rows {
		has := false
		for own := at; own < gram.End(p.Rows, at); own++ {
			has = has || slices.Contains([]int{api.NVarOf, api.NLen, api.NTotal, api.NEmpty, api.NFull, api.NAt, api.NTagOf}, p.Rows[own].Kind)
		}
		want := api.Fault{}
		if has || types[at] == typed.None {
			want = api.Fault{Err: api.ErrConst, At: at}
			refused++
		}
		if n, fault := typed.Const(p, usual(), at); fault != want || want != (api.Fault{}) && n != 0 {
			t.Errorf("row %d, %v: %v, %v; want %v", at, p.Rows[at], fault, n, want)
		}
	}
	if refused < 30 || refused == len(p.Rows) {
		t.Errorf("%d of %d rows", refused, len(p.Rows))
	}
	for _, at := range []int{-1, math.MinInt, len(p.Rows), len(p.Rows) + 1, math.MaxInt} {
		if n, fault := typed.Const(p, usual(), at); fault != (api.Fault{Err: api.ErrArg}) || n != 0 {
			t.Errorf("row %d: %v, %v", at, fault, n)
		}
	}
}

// A constant has its number whatever the ranges and the requirements are.
func TestP804DespiteRanges(t *testing.T) {
	p := policy(t, "var v = 7 in 9 .. 3; tag t in 0; require false; on miss { loop 0 - 5 while false { } }")
	for nth, want := range []int{7, 9, 3, 0, 0, 5} {
		at := row(t, p, api.NNum, nth)
		if n, fault := typed.Const(p, usual(), at); fault != (api.Fault{}) || n != want {
			t.Errorf("row %d: %v, %v; want %d", at, fault, n, want)
		}
	}
}

func TestP805Vars(t *testing.T) {
	one := func(init, lo, hi int) []api.Var { return []api.Var{{Init: init, Lo: lo, Hi: hi}} }
	wantTyped(t, "var v = 5 in 0 .. 9;", one(5, 0, 9), nil)
	wantTyped(t, "var v = 0 in 0 .. 9;", one(0, 0, 9), nil)
	wantTyped(t, "var v = 9 in 0 .. 9;", one(9, 0, 9), nil)
	wantTyped(t, "var v = 3 in 3 .. 3;", one(3, 3, 3), nil)
	wantTyped(t, "var v = -3 in -5 .. -1;", one(-3, -5, -1), nil)
	wantTyped(t, "var v = size - 20 in -1073741824 * 2 .. 1073741824 * 2;", one(-10, -1<<30, 1<<30), nil)
	wantTyped(t, "var v = 1073741824 in 0 .. 1073741824;", one(1<<30, 0, 1<<30), nil)
	for _, inner := range []string{
		"var v = 10 in 0 .. 9;", "var v = -1 in 0 .. 9;", "var v = 5 in 9 .. 0;", "var v = 9 in 9 .. 0;", "var v = 0 in 9 .. 0;", "var v = 3 in 4 .. 4;", "var v = size in 0 .. cap(b);", "var v = 0 in 0 - -1 .. 9;",
	} {
		wantFault(t, inner, api.ErrRange, api.NVar, 0)
	}
	wantTyped(t, "var v = 1 in 0 .. 2; var w = 2 in 1 .. 3; var u = 0 in 0 .. 0;", []api.Var{{Init: 1, Lo: 0, Hi: 2}, {Init: 2, Lo: 1, Hi: 3}, {}}, nil)
	wantFault(t, "var v = 1 in 0 .. 2; var w = 0 in 1 .. 3; var u = 9 in 0 .. 0;", api.ErrRange, api.NVar, 1)
}

func TestP805Tags(t *testing.T) {
	wantTyped(t, "tag t in 1; tag u in 255; tag v in cap(a) * 2; tag w in size;", nil, []int{1, 255, 8, 10})
	for _, inner := range []string{"tag t in 0;", "tag t in 256;", "tag t in -1;", "tag t in 1073741824;", "tag t in -1073741824;", "tag t in cap(a) - size;", "tag t in 5 / 0;"} {
		wantFault(t, inner, api.ErrRange, api.NTag, 0)
	}
	wantFault(t, "tag t in 3; tag u in 4 - 4;", api.ErrRange, api.NTag, 1)
}

func TestP805Requirements(t *testing.T) {
	wantTyped(t, "require size > 9; require !(size > 10); require true;", nil, nil)
	for _, inner := range []string{"require false;", "require size > 10;", "require cap(a) == size || cap(b) == size;", "require !true;", "require 1 != 1;"} {
		wantFault(t, inner, api.ErrRequire, api.NRequire, 0)
	}
	wantFault(t, "require true; require size == 11; require false;", api.ErrRequire, api.NRequire, 1)
}

func TestP805Loops(t *testing.T) {
	wantTyped(t, "on miss { loop 0 while true { } loop 4194304 while true { } loop 4194303 + 1 while true { } loop 1 while true { loop size while true { } } }", nil, nil, 0, 1<<22, 1<<22, 1, 10)
	wantTyped(t, "rule r { if true { } else { loop 3 * cap(b) while full(a) { pass; } } } on hit a { call r; } on miss { loop 7 while at(a) { call r; } }", nil, nil, 18, 7)
	for _, inner := range []string{"loop -1 while true { }", "loop 4194305 while true { }", "loop 1073741824 while true { }", "loop -1073741824 while true { }", "loop cap(a) - size while false { }"} {
		wantFault(t, "on miss { "+inner+" }", api.ErrRange, api.NLoop, 0)
		wantFault(t, "rule r { "+inner+" }", api.ErrRange, api.NLoop, 0)
		wantFault(t, "on miss { loop 2 while true { "+inner+" } }", api.ErrRange, api.NLoop, 1)
	}
}

// The first row that may not be, whatever is wrong behind it; and all of that behind the types and the capacities.
func TestP805Order(t *testing.T) {
	for _, c := range []struct {
		inner string
		err   api.Errno
		kind  int
	}{
		{"var v = 1 in 2 .. 3; tag t in 0; require false; on miss { loop -1 while true { } }", api.ErrRange, api.NVar}, {"tag t in 0; require false; var v = 1 in 2 .. 3;", api.ErrRange, api.NTag},
		{"require false; var v = 1 in 2 .. 3; tag t in 0;", api.ErrRequire, api.NRequire}, {"rule r { loop -1 while true { } } require false;", api.ErrRange, api.NLoop}, {"require false; rule r { loop -1 while true { } }", api.ErrRequire, api.NRequire},
		{"require false; on miss { drop a back; }", api.ErrKind, api.NDrop}, {"tag t in 0; on miss { loop total while true { } }", api.ErrConst, api.NTotal}, {"var v = 1 in 2 .. 3; require 7 + size;", api.ErrType, api.NAdd},
	} {
		wantFault(t, c.inner, c.err, c.kind, 0)
	}
	wantUnfit(t, policy(t, "require false; tag t in 0;"), api.Caps{Size: 10, Queues: []int{11, 6}})
}
