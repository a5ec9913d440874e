package cost_test

import (
	"fmt"
	"math"
	"slices"
	"strings"
	"testing"

	"winnow/api"
	"winnow/cost"
	"winnow/gram"
	"winnow/names"
	"winnow/typed"
)

// whole is the policy of a text.
func whole(t *testing.T, text string) api.Policy {
	t.Helper()
	rows, _, fault := gram.Parse([]byte(text))
	if fault != (api.Fault{}) {
		t.Fatalf("%.300s: %v", text, fault)
	}
	p, fault := names.Resolve(rows)
	if fault != (api.Fault{}) {
		t.Fatalf("%.300s: %v", text, fault)
	}
	return p
}

// things stand in the policies of most tests.
const things = "policy p { queue q resident; queue g ghost; var v = 0 in 0 .. 9; tag t in 3; rule r { pass; } "

// policy is that of the things and what stands behind them.
func policy(t *testing.T, inner string) api.Policy {
	t.Helper()
	return whole(t, things+inner+" }")
}

// withRounds has these for the loops, in their order.
func withRounds(t *testing.T, p api.Policy, rounds ...int) api.Typed {
	t.Helper()
	list := make([]int, len(p.Rows))
	for at, row := range p.Rows {
		if row.Kind == api.NLoop {
			list[at], rounds = rounds[0], rounds[1:]
		}
	}
	if len(rounds) > 0 {
		t.Fatalf("%d rounds are left", len(rounds))
	}
	return api.Typed{Rounds: list}
}

// row is the number of the row of that kind, so many behind the first of them.
func row(t *testing.T, p api.Policy, kind, nth int) int {
	t.Helper()
	for at, row := range p.Rows {
		if row.Kind != kind {
			continue
		}
		if nth == 0 {
			return at
		}
		nth--
	}
	t.Fatalf("no row of kind %d", kind)
	return 0
}

func sameCosts(x, y api.Costs) bool { return slices.Equal(x.On, y.On) && x.Miss == y.Miss }

// wantCosts wants them of a policy.
func wantCosts(t *testing.T, p api.Policy, u api.Typed, want api.Costs) {
	t.Helper()
	if got, fault := cost.Bound(p, u); fault != (api.Fault{}) || !sameCosts(got, want) {
		t.Errorf("%v, %v; want %v", got, fault, want)
	}
}

// wantFault wants one of a policy, and nothing beside it.
func wantFault(t *testing.T, p api.Policy, u api.Typed, want api.Fault) {
	t.Helper()
	if got, fault := cost.Bound(p, u); fault != want || !sameCosts(got, api.Costs{}) {
		t.Errorf("%v, %v; want %v", got, fault, want)
	}
}

// wantBound wants one of doings in a miss's block, without the block's own step.
func wantBound(t *testing.T, doings string, want int, rounds ...int) {
	t.Helper()
	p := policy(t, "on miss { "+doings+" }")
	u := withRounds(t, p, rounds...)
	if got, fault := cost.Bound(p, u); fault != (api.Fault{}) || !sameCosts(got, api.Costs{On: []int{0, 0}, Miss: 1 + want}) {
		t.Errorf("%s, %v: %v, %v; want %d and 1", doings, rounds, got, fault, want)
	}
}

func TestP1001(t *testing.T) {
	const most = api.MaxSum
	for _, c := range []struct {
		list       []int
		sum, times int
	}{
		{nil, 0, 1}, {[]int{}, 0, 1}, {[]int{0}, 0, 0}, {[]int{1}, 1, 1}, {[]int{7}, 7, 7}, {[]int{-1}, 0, 0}, {[]int{math.MinInt}, 0, 0},
		{[]int{3, 4}, 7, 12}, {[]int{3, -5, 4}, 7, 0}, {[]int{-3, -4}, 0, 0}, {[]int{2, 3, 4, 5}, 14, 120}, {[]int{1, 1, 1}, 3, 1},
		{[]int{most}, most, most}, {[]int{most - 1}, most - 1, most - 1}, {[]int{most + 1}, most, most}, {[]int{math.MaxInt}, most, most},
		{[]int{most, 0}, most, 0}, {[]int{0, most}, most, 0}, {[]int{most, 1}, most, most}, {[]int{1, most}, most, most}, {[]int{most, -1}, most, 0},
		{[]int{most - 1, 1}, most, most - 1}, {[]int{most - 2, 1}, most - 1, most - 2}, {[]int{most, most}, most, most}, {[]int{most, most, most}, most, most},
		{[]int{math.MaxInt, math.MaxInt}, most, most}, {[]int{math.MaxInt, math.MaxInt, 0}, most, 0}, {[]int{math.MaxInt, math.MinInt}, most, 0},
		{[]int{1 << 61, 1 << 61}, most, most}, {[]int{1 << 61, 1<<61 - 1}, most - 1, most}, {[]int{1 << 61, 2}, 1<<61 + 2, most}, {[]int{1<<61 - 1, 2}, 1<<61 + 1, most - 2}, {[]int{2, 1<<61 - 1}, 1<<61 + 1, most - 2},
		{[]int{1 << 31, 1 << 31}, 1 << 32, most}, {[]int{1<<31 - 1, 1 << 31}, 1<<32 - 1, most - 1<<31}, {[]int{1 << 31, 1<<31 + 1}, 1<<32 + 1, most}, {[]int{1 << 32, 1 << 32}, 1 << 33, most}, {[]int{3, 1 << 61}, 1<<61 + 3, most},
		{[]int{1537228672809129301, 3}, 1537228672809129304, 4611686018427387903}, {[]int{1537228672809129302, 3}, 1537228672809129305, most},
		{[]int{1 << 40, 1 << 40, 1 << 40, 5}, 3<<40 + 5, most}, {[]int{1 << 62, 1 << 2, 3}, most, most}, {[]int{5, 1 << 40, 1 << 40, 0, 2}, 1<<41 + 7, 0},
	} {
		if got := cost.Sum(c.list...); got != c.sum {
			t.Errorf("Sum(%v): %d; want %d", c.list, got, c.sum)
		}
		if got := cost.Times(c.list...); got != c.times {
			t.Errorf("Times(%v): %d; want %d", c.list, got, c.times)
		}
	}
}

// However many numbers there are.
func TestP1001Many(t *testing.T) {
	list := slices.Repeat([]int{1 << 45}, 100000)
	if got := cost.Sum(list...); got != 100000<<45 {
		t.Errorf("Sum: %d", got)
	}
	if got := cost.Sum(append(list, list...)...); got != api.MaxSum {
		t.Errorf("Sum of twice as many: %d", got)
	}
	if got := cost.Times(slices.Repeat([]int{1}, 100000)...); got != 1 {
		t.Errorf("Times: %d", got)
	}
	if got := cost.Times(append(list, 0)...); got != 0 {
		t.Errorf("Times, and by 0: %d", got)
	}
}

func TestP1002Doings(t *testing.T) {
	wantBound(t, "", 0)
	for _, one := range []string{"pass;", "{ }", "forget;", "insert q front;", "insert g back;", "move q back;", "drop g front;", "evict q back;", "evict q front to g back;", "shift q back q front;"} {
		wantBound(t, one, 1)
		wantBound(t, one+one+one, 3)
	}
	wantBound(t, "{ pass; }", 2)
	wantBound(t, "{ { pass; } { } pass; }", 5)
	wantBound(t, "set v = 1;", 2)
	wantBound(t, "set v = 1 + v * len(q);", 6)
	wantBound(t, "mark x t = 1;", 3)
	wantBound(t, "mark front(q) t = 1;", 3)
	wantBound(t, "mark back(q) t = t(front(q)) - 1;", 6)
	wantBound(t, "call r;", 3)
	wantBound(t, "call r; pass; call r;", 7)
}

// An expression counts one for each of its rows: nothing is known of what is left out at && and ||.
func TestP1002Expressions(t *testing.T) {
	for text, want := range map[string]int{
		"7": 1, "true": 1, "false": 1, "size": 1, "total": 1, "v": 1, "len(q)": 1, "cap(q)": 1, "empty(q)": 1, "full(q)": 1, "at(q)": 1,
		"t(x)": 2, "t(front(q))": 2, "t(back(g))": 2, "-7": 2, "!true": 2, "min(1, 2)": 3, "max(t(x), 2)": 4, "(((7)))": 1, "- - -7": 4,
		"1 * 2": 3, "1 / 2": 3, "1 + 2": 3, "1 - 2": 3, "1 == 2": 3, "1 != 2": 3, "1 < 2": 3, "1 <= 2": 3, "1 > 2": 3, "1 >= 2": 3, "true && false": 3, "true || false": 3,
		"false && 1 + 2 < 3": 7, "true || 1 + 2 < 3": 7, "v - v - v": 5, "v - (v - v)": 5, "min(max(v, 1), v + 2) * 3": 9,
	} {
		wantBound(t, "set v = "+text+";", 1+want)
		wantBound(t, "if "+text+" { }", 1+want+1)
		wantBound(t, "loop 2 while "+text+" { }", 1+2*(want+1), 2)
		wantBound(t, "mark x t = "+text+";", 2+want)
	}
}

func TestP1002If(t *testing.T) {
	wantBound(t, "if full(q) { }", 3)
	wantBound(t, "if full(q) { pass; pass; }", 5)
	wantBound(t, "if full(q) { } else { }", 3)
	wantBound(t, "if full(q) { pass; } else { pass; pass; pass; }", 6)
	wantBound(t, "if full(q) { pass; pass; pass; } else { pass; }", 6)
	wantBound(t, "if full(q) { pass; } else { pass; }", 4)
	wantBound(t, "if full(q) { } else if empty(q) { }", 5)
	wantBound(t, "if full(q) { pass; pass; } else if empty(q) { }", 5)
	wantBound(t, "if full(q) { pass; pass; pass; } else if empty(q) { }", 6)
	wantBound(t, "if full(q) { pass; } else if empty(q) { } else { pass; pass; }", 7)
	wantBound(t, "if full(q) { pass; } else if empty(q) { } else if at(q) { } else if 1 < v { pass; }", 2+2+2+4+2)
	wantBound(t, "if full(q) { if full(g) { pass; } else { pass; pass; } pass; }", 2+1+2+3+1)
}

func TestP1002Loop(t *testing.T) {
	const most = api.MaxLoop
	wantBound(t, "loop 5 while true { }", 1, 0)
	wantBound(t, "loop 5 while true { }", 3, 1)
	wantBound(t, "loop 5 while true { }", 11, 5)
	wantBound(t, "loop 5 while total > 3 { pass; }", 1, 0)
	wantBound(t, "loop 5 while total > 3 { pass; pass; }", 1+most*6, most)
	// The rounds are t's, whatever the text says, and its first expression is nothing.
	wantBound(t, "loop 1 + 2 * cap(q) - min(3, 4) while true { pass; }", 1+4*3, 4)
	wantBound(t, "loop 7 while true { pass; } loop 7 while true { pass; pass; }", 1+2*3+1+3*4, 2, 3)
	wantBound(t, "loop 7 while true { loop 7 while true { pass; } pass; }", 1+2*(1+1+(1+3*3)+1), 2, 3)
	wantBound(t, "loop 7 while true { loop 7 while true { pass; } pass; }", 1, 0, most)
	wantBound(t, "loop 7 while true { loop 7 while true { pass; } pass; }", 1+9*4, 9, 0)
	wantBound(t, "loop 7 while true { call r; if full(q) { loop 7 while true { } } else { pass; } }", 1+4*(2+3+2+1+(1+5*2)), 4, 5)
	wantBound(t, "loop 7 while true { loop 7 while true { loop 7 while true { pass; } } }", 1, 0, most, most)
	// Above MaxCost, and above MaxSum, within what no round comes to.
	wantBound(t, "loop 7 while true { loop 7 while true { loop 7 while true { loop 7 while true { pass; } } } }", 1, 0, most, most, most)
	wantBound(t, "loop 7 while true { loop 7 while true { loop 7 while true { loop 7 while true { pass; } } } pass; }", 1+most*4, most, 0, most, most)
}

// Rounds of rows that are no loops are looked at, and not used.
func TestP1002RoundsOfOthers(t *testing.T) {
	p := policy(t, "on miss { if full(q) { pass; } else if at(q) { } loop 7 while v < 3 { call r; } }")
	u := api.Typed{Rounds: slices.Repeat([]int{1 << 20}, len(p.Rows))}
	u.Rounds[row(t, p, api.NLoop, 0)] = 2
	wantCosts(t, p, u, api.Costs{On: []int{0, 0}, Miss: 1 + 2 + 3 + 1 + 2*(3+1+3)})
}

func TestP1002Calls(t *testing.T) {
	p := whole(t, `policy p { queue q resident; rule a { pass; pass; } rule b { call a; loop 3 while true { call a; } } rule c { if full(q) { call b; } else { call a; } call b; }
		rule unused { loop 9 while true { loop 9 while true { loop 9 while true { } } } }
		on hit q { call c; call a; } on miss { call b; } }`)
	u := withRounds(t, p, 5, api.MaxLoop, api.MaxLoop, api.MaxLoop)
	const a = 3
	const b = 1 + (1 + a) + (1 + 5*(1+(1+(1+a))))
	const c = 1 + (1 + 1 + (1 + (1 + b))) + (1 + b)
	wantCosts(t, p, u, api.Costs{On: []int{1 + (1 + c) + (1 + a)}, Miss: 1 + (1 + b)})
}

// Each event's own block is told, of each queue by its number, wherever the event stands.
func TestP1003Events(t *testing.T) {
	p := whole(t, `policy p { queue a resident; queue b ghost; queue c resident; queue d ghost; queue e resident;
		on miss { pass; pass; } on ghost d { pass; pass; pass; } on hit c { } on hit a { pass; } }`)
	wantCosts(t, p, withRounds(t, p), api.Costs{On: []int{2, 0, 1, 4, 0}, Miss: 3})
	p = whole(t, "policy p { queue a resident; on hit a { pass; } }")
	wantCosts(t, p, withRounds(t, p), api.Costs{On: []int{2}})
	p = whole(t, "policy p { on miss { pass; } }")
	wantCosts(t, p, withRounds(t, p), api.Costs{Miss: 2})
	p = whole(t, "policy p { }")
	wantCosts(t, p, withRounds(t, p), api.Costs{})
	text, want := "policy p { ", api.Costs{}
	for i := range api.MaxQueues {
		text += fmt.Sprintf("queue q%d %s; ", i, []string{"resident", "ghost"}[i%2])
		want.On = append(want.On, i+2)
	}
	for i := range api.MaxQueues {
		n := (i*5 + 3) % api.MaxQueues
		text += fmt.Sprintf("on %s q%d { %s } ", []string{"hit", "ghost"}[n%2], n, strings.Repeat("pass; ", n+1))
	}
	p = whole(t, text+"}")
	wantCosts(t, p, withRounds(t, p), want)
}

// Bound asks for no types: of a hit at a ghost queue, too, there is a bound.
func TestP1003AnyTypes(t *testing.T) {
	p := policy(t, "on hit g { set v = true; move g front; } on ghost q { if 7 { } loop len(q) while 3 { evict g back to q front; } }")
	wantCosts(t, p, withRounds(t, p, 2), api.Costs{On: []int{1 + 3 + 1 + 2*(1+2), 1 + 2 + 1}})
}

// dear is a doing that costs more than MaxCost.
const dear = "loop 4194304 while true { loop 4194304 while true { loop 4194304 while true { pass; } } } "

func TestP1003Cost(t *testing.T) {
	const all = "loop 1 while true { loop 1 while true { loop 1 while true { } } } loop 1 while true { loop 1 while true { } } loop 1 while true { } "
	rounds := []int{1 << 18, 1 << 18, 1<<19 - 2, 1 << 17, 1<<18 - 5, 1<<16 - 2}
	// Together with the block they come to MaxCost.
	wantBound(t, all, api.MaxCost-1, rounds...)
	for _, inner := range []string{all + "pass; ", "pass; " + all, "{ } " + all, all + all} {
		for kind, event := range map[int]string{api.NMiss: "on miss", api.NHit: "on hit q", api.NGhost: "on ghost g"} {
			p := policy(t, event+" { "+inner+"}")
			list := rounds
			if inner == all+all {
				list = append(slices.Clone(rounds), rounds...)
			}
			wantFault(t, p, withRounds(t, p, list...), api.Fault{Err: api.ErrCost, At: row(t, p, kind, 0)})
		}
	}
	// Within the others' costs nothing counts of it, and two that are just not too dear are none of them.
	p := policy(t, "on hit q { "+all+"} on miss { "+all+"}")
	wantCosts(t, p, withRounds(t, p, append(slices.Clone(rounds), rounds...)...), api.Costs{On: []int{api.MaxCost, 0}, Miss: api.MaxCost})
	// A rule is dear where it is called.
	rule := "rule d { " + dear + "} "
	most := slices.Repeat([]int{api.MaxLoop}, 3)
	p = policy(t, rule+"on miss { pass; }")
	wantCosts(t, p, withRounds(t, p, most...), api.Costs{On: []int{0, 0}, Miss: 2})
	p = policy(t, rule+"on hit q { pass; } on miss { call d; }")
	wantFault(t, p, withRounds(t, p, most...), api.Fault{Err: api.ErrCost, At: row(t, p, api.NMiss, 0)})
	p = policy(t, rule+"on miss { loop 3 while true { call d; } }")
	wantCosts(t, p, withRounds(t, p, append(most, 0)...), api.Costs{On: []int{0, 0}, Miss: 2})
	p = policy(t, rule+"on miss { if true { pass; } else { call d; } }")
	wantFault(t, p, withRounds(t, p, most...), api.Fault{Err: api.ErrCost, At: row(t, p, api.NMiss, 0)})
}

// The first event that stands there is told, not the first queue's, nor the dearest.
func TestP1003Order(t *testing.T) {
	most := func(n int) []int { return slices.Repeat([]int{api.MaxLoop}, n) }
	for _, c := range []struct {
		events      string
		kind, loops int
	}{
		{"on ghost g { " + dear + "} on hit q { " + dear + "} on miss { " + dear + "}", api.NGhost, 9},
		{"on hit q { " + dear + "} on ghost g { " + dear + "} on miss { " + dear + "}", api.NHit, 9},
		{"on miss { " + dear + "} on hit q { " + dear + "} on ghost g { " + dear + "}", api.NMiss, 9},
		{"on miss { pass; } on ghost g { " + dear + "} on hit q { " + dear + dear + "}", api.NGhost, 9},
		{"on ghost g { } on hit q { pass; } on miss { loop 1 while false { " + dear + "} }", api.NMiss, 4},
		{"on hit q { pass; } on miss { } on ghost g { " + dear + "}", api.NGhost, 3},
	} {
		p := policy(t, c.events)
		wantFault(t, p, withRounds(t, p, most(c.loops)...), api.Fault{Err: api.ErrCost, At: row(t, p, c.kind, 0)})
	}
}

func TestP1003Rounds(t *testing.T) {
	p := policy(t, "on hit q { pass; } on miss { loop 3 while true { pass; } }")
	wrong := api.Fault{Err: api.ErrRange}
	for _, rounds := range [][]int{nil, {}, {0}, make([]int, len(p.Rows)-1), make([]int, len(p.Rows)+1), make([]int, 2*len(p.Rows))} {
		wantFault(t, p, api.Typed{Rounds: rounds}, wrong)
	}
	for at := range p.Rows {
		for _, n := range []int{-1, api.MaxLoop + 1, math.MaxInt, math.MinInt} {
			rounds := make([]int, len(p.Rows))
			rounds[at] = n
			wantFault(t, p, api.Typed{Rounds: rounds}, wrong)
		}
		for _, n := range []int{0, 1, api.MaxLoop} {
			rounds := make([]int, len(p.Rows))
			rounds[at] = n
			if _, fault := cost.Bound(p, api.Typed{Rounds: rounds}); fault != (api.Fault{}) {
				t.Errorf("%d of row %d: %v", n, at, fault)
			}
		}
	}
	// Nothing else of what chapter 8 tells is asked for.
	u := withRounds(t, p, 3)
	u.Vars, u.Tags = []api.Var{{Init: 7, Lo: 9, Hi: -1 << 40}, {}, {}}, []int{-1, 0, 1 << 40}
	wantCosts(t, p, u, api.Costs{On: []int{2, 0}, Miss: 1 + 1 + 3*3})
	// Wrong rounds are told ahead of what costs too much.
	p = policy(t, "on miss { "+dear+"} on hit q { }")
	u = withRounds(t, p, api.MaxLoop, api.MaxLoop, api.MaxLoop)
	wantFault(t, p, u, api.Fault{Err: api.ErrCost, At: row(t, p, api.NMiss, 0)})
	u.Rounds[len(p.Rows)-1] = -1
	wantFault(t, p, u, wrong)
}

func TestP1003Names(t *testing.T) {
	right := policy(t, "on hit q { pass; } on miss { "+dear+"}")
	for what, spoil := range map[string]func(p *api.Policy){
		"no rows":           func(p *api.Policy) { *p = api.Policy{} },
		"rows alone":        func(p *api.Policy) { *p = api.Policy{Rows: p.Rows} },
		"a rule less":       func(p *api.Policy) { p.Rules = nil },
		"a rule elsewhere":  func(p *api.Policy) { p.Rules = []int{p.Rules[0] + 1} },
		"an event less":     func(p *api.Policy) { p.On = []int{-1, -1} },
		"no miss":           func(p *api.Policy) { p.Miss = -1 },
		"a queue less":      func(p *api.Policy) { p.Queues = p.Queues[:1] },
		"a name":            func(p *api.Policy) { p.Name = "other" },
		"a number":          func(p *api.Policy) { p.Rows[1].N = 7 },
		"kids":              func(p *api.Policy) { p.Rows[len(p.Rows)-1].Kids = 1 },
		"kids without end":  func(p *api.Policy) { p.Rows[0].Kids = math.MaxInt },
		"kids below none":   func(p *api.Policy) { p.Rows[0].Kids = math.MinInt },
		"a row more":        func(p *api.Policy) { p.Rows = append(p.Rows, api.Row{Kind: api.NPass}) },
		"a row less":        func(p *api.Policy) { p.Rows = p.Rows[:len(p.Rows)-1] },
		"a kind of no rows": func(p *api.Policy) { p.Rows[2].Kind = api.NCount },
	} {
		p := right
		p.Rows = slices.Clone(right.Rows)
		spoil(&p)
		if names.Check(p) != api.ErrShape {
			t.Fatalf("%s: it is a policy", what)
		}
		// Ahead of wrong rounds, and of what costs too much.
		for _, rounds := range [][]int{make([]int, len(p.Rows)), slices.Repeat([]int{api.MaxLoop}, len(p.Rows)), slices.Repeat([]int{-1}, len(p.Rows)), nil, {1, 2, 3}} {
			wantFault(t, p, api.Typed{Rounds: rounds}, api.Fault{Err: api.ErrShape})
		}
	}
}

func TestExamples(t *testing.T) {
	for _, c := range []struct{ got, want int }{
		{cost.Sum(), 0}, {cost.Sum(3, -5, 4), 7}, {cost.Sum(1<<61, 1<<61, 1), 1 << 62},
		{cost.Times(), 1}, {cost.Times(3, 0, 1<<62), 0}, {cost.Times(3, -1), 0}, {cost.Times(1<<40, 1<<40), 1 << 62},
	} {
		if c.got != c.want {
			t.Errorf("1.: %d; want %d", c.got, c.want)
		}
	}
	p := whole(t, "policy p { queue q resident; on miss { if full(q) { evict q back; } insert q front; } }")
	wantCosts(t, p, withRounds(t, p), api.Costs{On: []int{0}, Miss: 6})
	wantBound(t, "loop 5 while total > 3 { pass; }", 26, 5)
	wantBound(t, "call r;", 3)
	wantBound(t, "evict q back to g front;", 1)
	wantBound(t, "shift q back q front;", 1)
	wantBound(t, "mark back(q) t = t(x) + 1;", 6)
	const most = 1 << 22
	wantBound(t, "loop 4194304 while true { pass; }", 1+most*3, most)
	wantBound(t, "loop 4194304 while true { loop 4194304 while true { pass; } }", 1+most*(1+1+1+most*3), most, most)
	p = policy(t, "on miss { "+dear+"}")
	u, fault := typed.Check(p, api.Caps{Size: 1, Queues: []int{1, 1}})
	if fault != (api.Fault{}) {
		t.Fatal(fault)
	}
	wantFault(t, p, u, api.Fault{Err: api.ErrCost, At: row(t, p, api.NMiss, 0)})
}

// What typed tells of the papers' texts, under the greatest capacities too, is never too dear.
func TestPublished(t *testing.T) {
	for _, size := range []int{10, 11, 1000, api.MaxCap} {
		// The blocks of s3fifo's rules, and of twoq's and arc's.
		main := 1 + (1 + 3*size*(7+8)) + 5
		small := 1 + 2 + (1 + size*(6+1+(1+4+max(1+(4+main)+3+1, 8))))
		reclaim := 1 + (1 + 2*(3+1+(1+5+1+1+small)))
		const reclaimed, replaced = 1 + (1 + 3 + 1 + (1 + 7 + 6)), 1 + (1 + 3 + 1 + (1 + 16 + 6))
		want := map[string]api.Costs{
			"fifo":   {On: []int{0}, Miss: 6},
			"lru":    {On: []int{2}, Miss: 6},
			"clock":  {On: []int{4}, Miss: 7 + 9*size},
			"twoq":   {On: []int{0, 1 + (1 + reclaimed) + 4, 2}, Miss: 1 + (1 + reclaimed) + 1},
			"s3fifo": {On: []int{7, 7, 1 + (1 + reclaim) + (1 + 3 + 1 + (1 + 1 + 1 + (4 + main) + 1 + 3))}, Miss: 1 + (1 + reclaim) + 6},
			"arc":    {On: []int{2, 2, 1 + 8 + 2 + 1 + (1 + replaced) + 1, 1 + 8 + 2 + 1 + (1 + replaced) + 1}, Miss: 1 + (1 + 3 + 1 + (1 + 5 + (1 + 9 + 6)) + 2 + (1 + replaced)) + 1},
		}
		for _, text := range published {
			p := whole(t, text)
			c := api.Caps{Size: size}
			for _, queue := range p.Queues {
				c.Queues = append(c.Queues, size)
				if queue.Ghost && size == api.MaxCap {
					c.Queues[len(c.Queues)-1] = 1
				}
			}
			u, fault := typed.Check(p, c)
			if fault != (api.Fault{}) {
				t.Fatalf("%s: %v", p.Name, fault)
			}
			got, fault := cost.Bound(p, u)
			if w := want[p.Name]; fault != (api.Fault{}) || !sameCosts(got, w) {
				t.Errorf("%s of %d: %v, %v; want %v", p.Name, size, got, fault, w)
			}
		}
	}
}
