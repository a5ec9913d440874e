package rule_test

import (
	"fmt"
	"math"
	"slices"
	"strings"
	"testing"

	"winnow/api"
	"winnow/gram"
	"winnow/names"
	"winnow/rule"
	"winnow/typed"
)

// whole is the policy of a text.
func whole(t *testing.T, text string) api.Policy {
	t.Helper()
	rows, _, fault := gram.Parse([]byte(text))
	if fault != (api.Fault{}) {
		t.Fatalf("%.300s: %v", text, fault)
	}
	p, fault := names.Resolve(rows)
	if fault != (api.Fault{}) {
		t.Fatalf("%.300s: %v", text, fault)
	}
	return p
}

// lower is the plan of a text.
func lower(t *testing.T, text string, c api.Caps) api.Plan {
	t.Helper()
	p := whole(t, text)
	u, fault := typed.Check(p, c)
	if fault != (api.Fault{}) {
		t.Fatalf("%.300s: %v", text, fault)
	}
	plan, err := rule.Lower(p, u, c)
	if err != api.OK {
		t.Fatalf("%.300s: %v", text, err)
	}
	return plan
}

// open is the machine of a plan.
func open(t *testing.T, p api.Plan, c api.Caps) *rule.Machine {
	t.Helper()
	m, err := rule.New(p, c)
	if err != api.OK || m == nil {
		t.Fatalf("%.300v: %v", p, err)
	}
	return m
}

// row is the number of the row of that kind, so many behind the first of them.
func row(t *testing.T, p api.Policy, kind, nth int) int {
	t.Helper()
	for at, row := range p.Rows {
		if row.Kind != kind {
			continue
		}
		if nth == 0 {
			return at
		}
		nth--
	}
	t.Fatalf("no row of kind %d", kind)
	return 0
}

// things stand in the policies of most tests.
const things = "policy p { queue a resident; queue b resident; queue g ghost; queue h ghost; var v = 0 in -3 .. 9; var w = 5 in -1073741824 .. 1073741824; tag t in 3; tag u in 255; "

func usual() api.Caps { return api.Caps{Size: 4, Queues: []int{3, 2, 2, 1}} }

// plan has these things, and this on a miss.
func plan(miss []api.Act) api.Plan {
	return api.Plan{Ghost: []bool{false, false, true, true}, Vars: []api.Var{{Lo: -3, Hi: 9}, {Init: 5, Lo: -api.MaxNum, Hi: api.MaxNum}}, Tags: []int{3, 255}, On: make([][]api.Act, 4), Miss: miss}
}

func tellEntry(e api.Entry) string {
	for _, n := range e.Tags {
		if n != 0 {
			return strings.Join(strings.Fields(fmt.Sprint(e.Key, ":", e.Tags)), ",")
		}
	}
	return fmt.Sprint(e.Key)
}

// tellState is such as "3 2:[1,0] / / 4 / ; 0 5": the queues, the vars.
func tellState(s api.State) string {
	var words []string
	for i, list := range s.Queues {
		if i > 0 {
			words = append(words, "/")
		}
		for _, e := range list {
			words = append(words, tellEntry(e))
		}
	}
	return strings.Join(words, " ") + " ; " + strings.Trim(fmt.Sprint(s.Vars), "[]")
}

// tellAnswer is such as "miss 7 8", or a trap.
func tellAnswer(a api.Answer) string {
	if a.Trap != api.TNone {
		word := []string{"", "full", "empty", "where", "fuel"}[a.Trap]
		if a.Hit || len(a.Evicted) > 0 {
			word += " and more"
		}
		return word
	}
	return strings.TrimSpace(map[bool]string{true: "hit ", false: "miss "}[a.Hit] + strings.Trim(fmt.Sprint(a.Evicted), "[]"))
}

func wantRight(t *testing.T, what string, p api.Plan, right bool) {
	t.Helper()
	want := api.ErrPlan
	if right {
		want = api.OK
	}
	if got := rule.Check(p); got != want {
		t.Errorf("%s: %v; want %v", what, got, want)
	}
}

func TestP1201Lists(t *testing.T) {
	const most = api.MaxNum
	for _, c := range []struct {
		p     api.Plan
		right bool
	}{
		{api.Plan{}, true}, {api.Plan{Ghost: []bool{}, On: [][]api.Act{}, Miss: []api.Act{}}, true},
		{api.Plan{Ghost: make([]bool, 16), On: make([][]api.Act, 16)}, true}, {api.Plan{Ghost: make([]bool, 17), On: make([][]api.Act, 17)}, false},
		{api.Plan{Ghost: make([]bool, 2), On: make([][]api.Act, 1)}, false}, {api.Plan{Ghost: make([]bool, 1), On: make([][]api.Act, 2)}, false}, {api.Plan{Ghost: make([]bool, 1)}, false}, {api.Plan{On: [][]api.Act{{}}}, false},
		{api.Plan{Vars: make([]api.Var, 16)}, true}, {api.Plan{Vars: make([]api.Var, 17)}, false},
		{api.Plan{Tags: []int{1, 2, 3, 255}}, true}, {api.Plan{Tags: []int{1, 1, 1, 1, 1}}, false}, {api.Plan{Tags: []int{0}}, false}, {api.Plan{Tags: []int{256}}, false}, {api.Plan{Tags: []int{-1}}, false}, {api.Plan{Tags: []int{1, 1, 1, 0}}, false},
		{api.Plan{Vars: []api.Var{{Init: 0, Lo: 0, Hi: 0}}}, true}, {api.Plan{Vars: []api.Var{{Init: -most, Lo: -most, Hi: most}}}, true}, {api.Plan{Vars: []api.Var{{Init: most, Lo: -most, Hi: most}}}, true},
		{api.Plan{Vars: []api.Var{{Init: -most, Lo: -most, Hi: -most}}}, true}, {api.Plan{Vars: []api.Var{{Init: 5, Lo: 6, Hi: 7}}}, false}, {api.Plan{Vars: []api.Var{{Init: 8, Lo: 6, Hi: 7}}}, false}, {api.Plan{Vars: []api.Var{{Init: 6, Lo: 7, Hi: 6}}}, false},
		{api.Plan{Vars: []api.Var{{Init: 0, Lo: -most - 1, Hi: 0}}}, false}, {api.Plan{Vars: []api.Var{{Init: 0, Lo: 0, Hi: most + 1}}}, false}, {api.Plan{Vars: []api.Var{{}, {Init: 1}}}, false},
		{api.Plan{Vars: []api.Var{{Init: most + 1, Lo: most + 1, Hi: most + 1}}}, false}, {api.Plan{Vars: []api.Var{{Lo: math.MinInt, Hi: math.MaxInt}}}, false},
	} {
		wantRight(t, fmt.Sprintf("%v", c.p), c.p, c.right)
	}
}

// samples have an act of each kind where it may stand, in the things of plan.
var samples = []string{
	"block", "block(block)", "block(if(bool 1, block))", "block(if(bool 0, block, block))", "block(loop 7(bool 1, block))", "block(set 1(num 3))", "block(mark 1(x, num 3))", "block(mark 0(end 1 1, num 3))", "block(insert 0 1)", "block(insert 3 0)", "block(move 1 1)", "block(forget)",
	"block(take 1 1, give 0 1)", "block(take 2 0, give 3 0)", "block(take 3 1, loose)", "block(take 1 0, tell, loose)", "block(take 1 0, tell, give 2 1)",
	"block(shift 1 1 0 1)", "block(shift 2 0 3 1)", "block(spill 1 1 2 1)", "block(evict 1 1)", "block(drop 3 1)",
	"block(set 0(var 1))", "block(set 0(len 3))", "block(set 0(total))", "block(set 0(tag 1(x)))", "block(set 0(tag 1(end 3 1)))", "block(set 0(min(num 1, num 2)))", "block(set 0(max(num 1, num 2)))", "block(set 0(neg(num 1)))", "block(set 0(mul(num 1, num 2)))", "block(set 0(div(num 1, num 2)))",
	"block(set 0(add(num 1, num 2)))", "block(set 0(sub(num 1, num 2)))", "block(if(at 3, block))", "block(if(eq(num 1, num 2), block))", "block(if(eq(bool 1, bool 0), block))", "block(if(lt(num 1, num 2), block))", "block(if(le(num 1, num 2), block))", "block(if(not(bool 0), block))",
	"block(if(and(bool 0, bool 1), block))", "block(if(or(bool 0, bool 1), block))",
}

// fields are the numbers of an act.
func fields(a *api.Act) []*int { return []*int{&a.A, &a.B, &a.C, &a.D} }

// Each number of each kind: those that may be, and those beside them.
func TestP1201Numbers(t *testing.T) {
	odd := []int{-1, 0, 1, 2, 3, 4, 5, api.MaxLoop, api.MaxLoop + 1, api.MaxNum, api.MaxNum + 1, -api.MaxNum, -api.MaxNum - 1, math.MaxInt, math.MinInt}
	met := map[int]int{}
	for _, sample := range samples {
		rows := acts(sample)
		wantRight(t, sample, plan(rows), true)
		for at := range rows {
			met[rows[at].Kind]++
			for i, field := range fields(&rows[at]) {
				was := *field
				for _, n := range odd {
					*field = n
					wantRight(t, fmt.Sprintf("%s: row %d, %c = %d", sample, at, 'A'+i, n), plan(rows), isRight(plan(rows)))
				}
				*field = was
			}
		}
	}
	if len(met) != api.RCount-1 {
		t.Errorf("%d kinds were met", len(met))
	}
	// What the plain reading says of some, so that it isn't believed alone.
	for text, right := range map[string]bool{
		"block(loop 0(bool 1, block))": true, "block(loop 4194304(bool 1, block))": true, "block(loop 4194305(bool 1, block))": false, "block(loop -1(bool 1, block))": false,
		"block(set 1(num 0))": true, "block(set 2(num 0))": false, "block(set -1(num 0))": false, "block(mark 1(x, num 0))": true, "block(mark 2(x, num 0))": false, "block(insert 3 1)": true, "block(insert 4 1)": false, "block(insert 0 2)": false, "block(insert 0 -1)": false,
		"block(move 1 0)": true, "block(move 2 0)": false, "block(move 4 0)": false, "block(evict 1 0)": true, "block(evict 2 0)": false, "block(drop 2 0)": true, "block(drop 1 0)": false, "block(spill 1 0 2 0)": true, "block(spill 2 0 2 0)": false, "block(spill 1 0 0 0)": false, "block(spill 1 0 2 2)": false,
		"block(shift 0 0 1 1)": true, "block(shift 2 0 3 1)": true, "block(shift 0 0 2 0)": false, "block(shift 2 0 0 0)": false, "block(shift 0 0 4 0)": false, "block(shift 0 0 0 2)": false, "block(shift 0 0 0 0)": true,
		"block(set 0(num 1073741824))": true, "block(set 0(num 1073741825))": false, "block(set 0(num -1073741824))": true, "block(set 0(num -1073741825))": false, "block(if(bool 2, block))": false, "block(if(bool -1, block))": false, "block(if(at 4, block))": false,
		"block(set 0(var 2))": false, "block(set 0(len 4))": false, "block(set 0(tag 2(x)))": false, "block(set 0(tag 0(end 4 0)))": false, "block(set 0(tag 0(end 0 2)))": false, "block 1": false, "block(forget 1)": false, "block(set 0(total 1))": false, "block(set 0(add 1(num 0, num 0)))": false,
		"block(set 0 1(num 0))": false, "block(insert 0 0 1)": false, "block(insert 0 0 0 1)": false, "block(take 0 0, give 0 0 1)": false, "block(take 0 0, tell 1, loose)": false, "block(set 0(tag 0(x 1)))": false, "block(set 0(num 0 1))": false, "block(if 1(bool 0, block))": false,
	} {
		wantRight(t, text, plan(acts(text)), right)
	}
}

// Each kind in the place of each kid of each kind.
func TestP1201Kids(t *testing.T) {
	leaves := []string{"block", "forget", "insert 0 0", "shift 0 0 0 0", "evict 0 0", "set 0(num 0)", "if(bool 0, block)", "loop 1(bool 0, block)", "mark 0(x, num 0)", "move 0 0", "spill 0 0 2 0", "drop 2 0", "tell", "loose", "take 0 0", "give 0 0",
		"x", "end 0 0", "num 0", "bool 0", "var 0", "len 0", "total", "at 0", "tag 0(x)", "neg(num 0)", "not(bool 0)", "add(num 0, num 0)", "eq(num 0, num 0)", "and(bool 0, bool 0)", "lt(total, total)"}
	right := 0
	for _, sample := range samples {
		for at := range acts(sample) {
			for _, leaf := range leaves {
				rows := acts(sample)
				behind := gram.End(treeRows(rows), at)
				rows = slices.Replace(rows, at, behind, acts(leaf)...)
				is := isRight(plan(rows))
				if is {
					right++
				}
				wantRight(t, fmt.Sprintf("%s: %s in the place of row %d", sample, leaf, at), plan(rows), is)
			}
			// A kid less, or more.
			for _, more := range []int{-1, 1} {
				rows := acts(sample)
				rows[at].Kids += more
				wantRight(t, fmt.Sprintf("%s: row %d has %d kids", sample, at, rows[at].Kids), plan(rows), isRight(plan(rows)))
			}
		}
	}
	if right < 300 {
		t.Errorf("%d were right", right)
	}
	for _, text := range []string{"if(bool 0)", "block(if(bool 0))", "block(if)", "block(if(block, block))", "block(if(bool 0, forget))", "block(if(bool 0, block, block, block))", "block(if(bool 0, block, forget))", "block(if(num 0, block))", "block(if(block, bool 0))",
		"block(loop 1(bool 0))", "block(loop 1(bool 0, forget))", "block(loop 1(bool 0, block, block))", "block(loop 1(num 0, block))", "block(set 0)", "block(set 0(bool 0))", "block(set 0(x))", "block(set 0(num 0, num 0))", "block(mark 0(num 0, x))", "block(mark 0(x, bool 0))", "block(mark 0(num 0))", "block(mark 0(x))",
		"block(num 0)", "block(x)", "block(bool 1)", "block(eq(num 0, num 0))", "block(eq(num 0, bool 0))", "block(set(eq(num 0, bool 0)))", "block(forget(forget))", "block(insert 0 0(block))", "block(take 0 0(block), give 0 0)", "block(set 0(num 0(num 0)))", "block(set 0(tag 0))", "block(set 0(tag 0(num 0)))", "block(set 0(tag 0(x(x))))", "block(set 0(add(num 0, bool 0)))", "block(set 0(add(bool 0, num 0)))", "block(set 0(add(num 0)))",
		"block(set 0(add(num 0, num 0, num 0)))", "block(set 0(neg(bool 0)))", "block(set 0(neg(num 0, num 0)))", "block(set 0(min(x, x)))", "block(if(eq(num 0, bool 0), block))", "block(if(eq(bool 0, num 0), block))", "block(if(eq(x, x), block))", "block(if(eq(num 0), block))", "block(if(eq(num 0, num 0, num 0), block))", "block(if(lt(bool 0, bool 0), block))", "block(if(le(num 0, bool 0), block))",
		"block(if(not(num 0), block))", "block(if(and(num 0, bool 0), block))", "block(if(or(bool 0, num 0), block))", "block(if(and(bool 0), block))", "block(if(not, block))", "forget", "num 0", "insert 0 0", "x", "bool 1", "evict 0 0"} {
		wantRight(t, text, plan(acts(text)), false)
	}
	for _, text := range []string{"block(forget, forget, block(forget), forget)", "block(if(eq(eq(num 0, total), and(bool 0, bool 1)), block(forget), block(block)))", "block(loop 3(not(not(at 0)), block(set 0(neg(neg(tag 0(end 2 1)))))))"} {
		wantRight(t, text, plan(acts(text)), true)
	}
}

// treeRows are rows of a tree with as many kids.
func treeRows(rows []api.Act) []api.Row {
	var list []api.Row
	for _, a := range rows {
		list = append(list, api.Row{Kids: a.Kids})
	}
	return list
}

func TestP1201Shape(t *testing.T) {
	block := func(kids int, more ...api.Act) []api.Act {
		return append([]api.Act{{Kind: api.RBlock, Kids: kids}}, more...)
	}
	forget := api.Act{Kind: api.RForget}
	for what, c := range map[string]struct {
		rows  []api.Act
		right bool
	}{
		"no rows": {nil, true}, "a block": {block(0), true}, "a kid": {block(1, forget), true}, "a kid less": {block(2, forget), false}, "a kid more": {block(0, forget), false}, "below none": {block(-1), false}, "below none, a kid": {block(-1, forget), false},
		"very many": {block(math.MaxInt, forget), false}, "very few": {block(math.MinInt, forget), false}, "very many, the first with fewer than none": {block(math.MaxInt, api.Act{Kind: api.RForget, Kids: -1}, forget), false}, "two blocks": {block(0, block(0)...), false}, "blocks in blocks": {block(1, block(1, block(0)...)...), true}, "a deep one without its kid": {block(1, block(1, block(1)...)...), false},
		"no kind": {block(1, api.Act{}), false}, "kind 0": {[]api.Act{{}}, false}, "below all kinds": {block(1, api.Act{Kind: -1}), false}, "above all kinds": {block(1, api.Act{Kind: api.RCount}), false}, "far above": {block(1, api.Act{Kind: math.MaxInt}), false}, "far below": {block(1, api.Act{Kind: math.MinInt}), false},
		"a number behind": {block(0, api.Act{Kind: api.RNum}), false}, "kids of a leaf": {block(1, api.Act{Kind: api.RForget, Kids: -1}), false},
	} {
		wantRight(t, what, plan(c.rows), c.right)
		// As any other event.
		for q := range 4 {
			p := plan(nil)
			p.On[q] = c.rows
			wantRight(t, fmt.Sprint(what, ", event ", q), p, c.right)
		}
	}
}

// All events together have as many rows as they may, or one more.
func TestP1201Rows(t *testing.T) {
	const most = 131072
	forgets := func(n int) []api.Act {
		if n == 0 {
			return nil
		}
		return append([]api.Act{{Kind: api.RBlock, Kids: n - 1}}, slices.Repeat([]api.Act{{Kind: api.RForget}}, n-1)...)
	}
	for _, c := range []struct {
		miss, first, last int
		right             bool
	}{
		{most, 0, 0, true}, {most + 1, 0, 0, false}, {0, most, 0, true}, {0, most + 1, 0, false}, {most / 2, most / 4, most / 4, true}, {most / 2, most / 4, most/4 + 1, false}, {most / 2, most/4 + 1, most / 4, false}, {most/2 + 1, most / 4, most / 4, false}, {1, 0, most - 1, true}, {1, 0, most, false}, {most, 1, 0, false}, {5 * most, 0, 0, false},
	} {
		p := plan(forgets(c.miss))
		p.On[0], p.On[3] = forgets(c.first), forgets(c.last)
		wantRight(t, fmt.Sprint(c), p, c.right)
	}
}

// All rows of up to five of what bears on the hand.
func TestP1201Hand(t *testing.T) {
	list := []api.Act{{Kind: api.RTake}, {Kind: api.RTake, A: 2, B: 1}, {Kind: api.RGive, A: 1, B: 1}, {Kind: api.RGive, A: 3}, {Kind: api.RTell}, {Kind: api.RLoose}, {Kind: api.RForget}}
	right := 0
	rows := make([]api.Act, 1, 8)
	var fill func(left int)
	fill = func(left int) {
		if left == 0 {
			rows[0] = api.Act{Kind: api.RBlock, Kids: len(rows) - 1}
			is := isRight(plan(rows))
			if is {
				right++
			}
			wantRight(t, tell(rows), plan(rows), is)
			return
		}
		for _, a := range list {
			rows = append(rows, a)
			fill(left - 1)
			rows = rows[:len(rows)-1]
		}
	}
	for n := range 6 {
		fill(n)
	}
	// Ways of n acts: w(n) = w(n-1) + 3 w(n-2) + 2 w(n-3).
	if right != 1+1+4+9+23+58 {
		t.Errorf("%d were right", right)
	}
	for text, is := range map[string]bool{
		"block(take 0 1, give 1 0)": true, "block(take 0 1, give 0 0)": true, "block(take 0 1, give 2 0)": false, "block(take 2 1, give 3 0)": true, "block(take 2 0, give 0 0)": false, "block(take 2 1, loose)": true, "block(take 0 1, loose)": false,
		"block(take 0 1, tell, loose)": true, "block(take 2 1, tell, loose)": false, "block(take 0 1, tell, give 2 0)": true, "block(take 0 1, tell, give 1 0)": false, "block(take 2 1, tell, give 3 0)": false, "block(take 2 1, tell, give 0 0)": false, "block(take 0 1, tell, tell, loose)": false,
		"block(take 0 1)": false, "block(take 0 1, tell)": false, "block(give 0 0)": false, "block(tell)": false, "block(loose)": false, "block(take 0 1, take 0 1, tell, loose)": false, "block(take 0 1, forget, tell, loose)": false, "block(take 0 1, tell, forget, loose)": false, "block(take 0 1, give 1 0, loose)": false,
		"block(take 0 1, block(tell, loose))": false, "block(block(take 0 1), give 1 0)": false, "block(take 2 1, block, loose)": false, "block(block(take 0 1, give 1 0), take 2 0, loose)": true, "block(if(bool 1, block(take 0 0)), tell, loose)": false, "block(if(bool 1, block(take 0 0, tell, loose)), take 2 0, give 2 1)": true,
		"block(loop 3(bool 1, block(take 0 0)))": false, "block(take 0 1, evict 0 1)": false, "block(evict 0 1, loose)": false,
	} {
		wantRight(t, text, plan(acts(text)), is)
	}
}

// chain is a sign with another one, and so on, as its first or its second kid; the last one is of its own.
func chain(n int, kind int, left bool, leaf, last *tree) *tree {
	x := last
	for range n {
		if left {
			x = mk(kind).with(x, leaf)
		} else {
			x = mk(kind).with(leaf, x)
		}
	}
	return x
}

func TestP1201Wants(t *testing.T) {
	num, tag, yes := mk(api.RNum, 1), mk(api.RTag, 0).with(mk(api.RX)), mk(api.RBool, 1)
	set := func(x *tree) *tree { return mk(api.RSet).with(x) }
	mark := func(x *tree) *tree { return mk(api.RMark).with(mk(api.REnd), x) }
	ask := func(x *tree) *tree { return mk(api.RIf).with(x, mk(api.RBlock)) }
	while := func(x *tree) *tree { return mk(api.RLoop, 2).with(x, mk(api.RBlock)) }
	for _, kind := range []int{api.RMin, api.RMax, api.RMul, api.RDiv, api.RAdd, api.RSub} {
		for what, last := range map[string]*tree{"a number": num, "a tag": tag, "a negative": mk(api.RNeg).with(mk(api.RNeg).with(tag))} {
			for doing, put := range map[string]func(*tree) *tree{"set": set, "mark": mark} {
				// 255 signs behind one another want 256 operands.
				for n, right := range map[int]bool{1: true, 254: true, 255: true, 256: false, 300: false} {
					wantRight(t, fmt.Sprint(doing, words[kind-1], n, what), plan(mk(api.RBlock).with(put(chain(n, kind, false, num, last))).flat()), right)
				}
				wantRight(t, fmt.Sprint(doing, words[kind-1], "from the left", what), plan(mk(api.RBlock).with(put(chain(3000, kind, true, num, last))).flat()), true)
			}
		}
	}
	for _, n := range []int{1, 255, 256} {
		wantRight(t, fmt.Sprint("no doing", n), plan(mk(api.RBlock).with(chain(n, api.RAdd, false, num, num)).flat()), false)
	}
	for doing, put := range map[string]func(*tree) *tree{"if": ask, "loop": while} {
		for _, c := range []struct {
			what  string
			x     *tree
			right bool
		}{
			{"eq 255", chain(255, api.REq, false, yes, yes), true}, {"eq 256", chain(256, api.REq, false, yes, yes), false}, {"eq from the left", chain(3000, api.REq, true, yes, yes), true},
			{"and", chain(3000, api.RAnd, false, yes, yes), true}, {"or", chain(3000, api.ROr, false, yes, yes), true}, {"or from the left", chain(3000, api.ROr, true, yes, yes), true},
			{"lt 254", mk(api.RLt).with(num, chain(254, api.RAdd, false, num, num)), true}, {"lt 255", mk(api.RLt).with(num, chain(255, api.RAdd, false, num, num)), false}, {"lt, the first one 255", mk(api.RLt).with(chain(255, api.RAdd, false, num, num), num), true},
			{"lt, the first one 256", mk(api.RLt).with(chain(256, api.RAdd, false, num, num), num), false}, {"le 254", mk(api.RLe).with(num, chain(254, api.RAdd, false, num, tag)), true}, {"le 255", mk(api.RLe).with(num, chain(255, api.RAdd, false, num, tag)), false},
			{"and of 255", mk(api.RAnd).with(yes, chain(255, api.REq, false, yes, yes)), true}, {"and of 256", mk(api.RAnd).with(yes, chain(256, api.REq, false, yes, yes)), false}, {"or of 256, the first one", mk(api.ROr).with(chain(256, api.REq, false, yes, yes), yes), false}, {"or of 255", mk(api.ROr).with(yes, chain(255, api.REq, false, yes, yes)), true},
			{"not of 255", mk(api.RNot).with(chain(255, api.REq, false, yes, yes)), true}, {"not of 256", mk(api.RNot).with(chain(256, api.REq, false, yes, yes)), false},
		} {
			wantRight(t, doing+" "+c.what, plan(mk(api.RBlock).with(put(c.x)).flat()), c.right)
		}
	}
}

func TestP1202(t *testing.T) {
	full := func() api.Plan {
		p := plan(acts("block(insert 0 1, forget)"))
		p.On[1] = acts("block(move 1 1)")
		return p
	}
	for what, spoil := range map[string]func(p *api.Plan){
		"a kind":         func(p *api.Plan) { p.Ghost[3] = false },
		"a queue more":   func(p *api.Plan) { p.Ghost = append(p.Ghost, false) },
		"no queues":      func(p *api.Plan) { p.Ghost = nil },
		"a first number": func(p *api.Plan) { p.Vars[1].Init++ },
		"a least number": func(p *api.Plan) { p.Vars[0].Lo++ },
		"a greatest one": func(p *api.Plan) { p.Vars[0].Hi++ },
		"a var less":     func(p *api.Plan) { p.Vars = p.Vars[:1] },
		"a tag":          func(p *api.Plan) { p.Tags[0]++ },
		"a tag more":     func(p *api.Plan) { p.Tags = append(p.Tags, 0) },
		"an event":       func(p *api.Plan) { p.On[1][1].B = 0 },
		"an event more":  func(p *api.Plan) { p.On = append(p.On, nil) },
		"an event less":  func(p *api.Plan) { p.On = p.On[:3] },
		"a kind of row":  func(p *api.Plan) { p.Miss[2].Kind++ },
		"an A":           func(p *api.Plan) { p.Miss[1].A++ },
		"a B":            func(p *api.Plan) { p.Miss[1].B++ },
		"a C":            func(p *api.Plan) { p.Miss[1].C++ },
		"a D":            func(p *api.Plan) { p.Miss[1].D++ },
		"a kid":          func(p *api.Plan) { p.Miss[0].Kids++ },
		"a row less":     func(p *api.Plan) { p.Miss = p.Miss[:2] },
		"another place":  func(p *api.Plan) { p.On[0], p.On[1] = p.On[1], p.On[0] },
		"no miss":        func(p *api.Plan) { p.Miss = nil },
	} {
		p, q := full(), full()
		twin := rule.Twin(p)
		if !rule.Same(p, q) || !rule.Same(p, twin) || !rule.Same(twin, q) {
			t.Errorf("%s: not the same ahead of it", what)
		}
		spoil(&q)
		if rule.Same(p, q) || rule.Same(q, p) || rule.Same(twin, q) {
			t.Errorf("%s: the same", what)
		}
		// A twin does not see what becomes of the other.
		other := rule.Twin(q)
		spoil(&p)
		if !rule.Same(p, q) || !rule.Same(other, p) || !rule.Same(twin, full()) {
			t.Errorf("%s: not the same behind it", what)
		}
	}
	// No list and an empty one are the same.
	empty := api.Plan{Ghost: []bool{}, Vars: []api.Var{}, Tags: []int{}, On: [][]api.Act{}, Miss: []api.Act{}}
	if !rule.Same(empty, api.Plan{}) || !rule.Same(api.Plan{}, empty) || !rule.Same(rule.Twin(empty), rule.Twin(api.Plan{})) || !rule.Same(api.Plan{On: [][]api.Act{{}, nil}}, api.Plan{On: [][]api.Act{nil, {}}}) {
		t.Error("an empty list is another one than none")
	}
}

// wantLowered wants what doings of a miss become.
func wantLowered(t *testing.T, doings, want string) {
	t.Helper()
	p := lower(t, things+"rule r { set v = 1; pass; } rule s { call r; { call r; } } on miss { "+doings+" } }", usual())
	if got := tell(p.Miss); got != strings.ReplaceAll(want, "\n", " ") {
		t.Errorf("%s: %s; want %s", doings, got, want)
	}
	if !slices.Equal(p.Miss, acts(want)) {
		t.Errorf("%s: %v; want %v", doings, p.Miss, acts(want))
	}
}

func TestP1203Doings(t *testing.T) {
	for doings, want := range map[string]string{
		"": "block", "pass;": "block", "pass; pass; { pass; }": "block(block)", "{ } { { } }": "block(block, block(block))", "forget;": "block(forget)", "forget; pass; forget;": "block(forget, forget)",
		"insert a front;": "block(insert 0 0)", "insert h back;": "block(insert 3 1)", "move b front;": "block(move 1 0)", "move a back;": "block(move 0 1)",
		"shift a front b back;": "block(take 0 0, give 1 1)", "shift h back g front;": "block(take 3 1, give 2 0)", "evict b front;": "block(take 1 0, tell, loose)", "evict a back;": "block(take 0 1, tell, loose)", "evict a back to g front;": "block(take 0 1, tell, give 2 0)", "evict b front to h back;": "block(take 1 0, tell, give 3 1)",
		"drop g front;": "block(take 2 0, loose)", "drop h back;": "block(take 3 1, loose)", "evict a back; drop g back; shift a back a front;": "block(take 0 1, tell, loose, take 2 1, loose, take 0 1, give 0 0)",
		"set v = 1;": "block(set 0(num 1))", "set w = v;": "block(set 1(var 0))", "mark x t = 1;": "block(mark 0(x, num 1))", "mark front(b) u = w;": "block(mark 1(end 1 0, var 1))", "mark back(h) u = t(x);": "block(mark 1(end 3 1, tag 0(x)))",
		"if true { }": "block(if(bool 1, block))", "if false { pass; } else { forget; }": "block(if(bool 0, block, block(forget)))", "if true { } else { }": "block(if(bool 1, block, block))",
		"if true { } else if false { }":                                    "block(if(bool 1, block, block(if(bool 0, block))))",
		"if true { } else if false { } else if at(a) { forget; } else { }": "block(if(bool 1, block, block(if(bool 0, block, block(if(at 0, block(forget), block))))))",
		"if true { } else { if false { } }":                                "block(if(bool 1, block, block(if(bool 0, block))))",
		"if true { evict a back; pass; } else { { drop g back; } }":        "block(if(bool 1, block(take 0 1, tell, loose), block(block(take 2 1, loose))))",
		"loop 3 while true { }":                                            "block(loop 3(bool 1, block))",
		"loop 2 * cap(a) + size while empty(a) { forget; } forget;":        "block(loop 10(eq(len 0, num 0), block(forget)), forget)",
		"loop 0 while true { loop 4194304 while false { evict a back; } }": "block(loop 0(bool 1, block(loop 4194304(bool 0, block(take 0 1, tell, loose)))))",
		"call r;":                 "block(block(set 0(num 1)))",
		"call r; call s; call r;": "block(block(set 0(num 1)), block(block(set 0(num 1)), block(block(set 0(num 1)))), block(set 0(num 1)))",
		"if at(g) { call s; } else if at(h) { call r; } loop 1 while true { call r; }": "block(if(at 2, block(block(block(set 0(num 1)), block(block(set 0(num 1))))), block(if(at 3, block(block(set 0(num 1)))))), loop 1(bool 1, block(block(set 0(num 1)))))",
	} {
		wantLowered(t, doings, want)
	}
}

func TestP1203Signs(t *testing.T) {
	for text, want := range map[string]string{
		"7": "num 7", "0": "num 0", "1073741824": "num 1073741824", "size": "num 4", "cap(a)": "num 3", "cap(b)": "num 2", "cap(h)": "num 1", "v": "var 0", "w": "var 1", "len(a)": "len 0", "len(h)": "len 3", "total": "total", "t(x)": "tag 0(x)", "u(front(a))": "tag 1(end 0 0)", "u(back(g))": "tag 1(end 2 1)",
		"min(v, 1)": "min(var 0, num 1)", "max(1, v)": "max(num 1, var 0)", "-v": "neg(var 0)", "-1": "neg(num 1)", "v * 2": "mul(var 0, num 2)", "v / 2": "div(var 0, num 2)", "v + 2": "add(var 0, num 2)", "v - 2": "sub(var 0, num 2)", "1 - 2 - 3": "sub(sub(num 1, num 2), num 3)", "1 - (2 - -v)": "sub(num 1, sub(num 2, neg(var 0)))",
	} {
		wantLowered(t, "set v = "+text+";", "block(set 0("+want+"))")
	}
	for text, want := range map[string]string{
		"true": "bool 1", "false": "bool 0", "empty(a)": "eq(len 0, num 0)", "empty(h)": "eq(len 3, num 0)", "full(a)": "eq(len 0, num 3)", "full(h)": "eq(len 3, num 1)", "at(b)": "at 1", "!at(b)": "not(at 1)", "!!true": "not(not(bool 1))", "!full(g)": "not(eq(len 2, num 2))",
		"v == w": "eq(var 0, var 1)", "v != w": "not(eq(var 0, var 1))", "v < w": "lt(var 0, var 1)", "v <= w": "le(var 0, var 1)", "v > w": "not(le(var 0, var 1))", "v >= w": "not(lt(var 0, var 1))", "true == at(a)": "eq(bool 1, at 0)", "(v > 1) != at(a)": "not(eq(not(le(var 0, num 1)), at 0))",
		"at(a) && at(b)": "and(at 0, at 1)", "at(a) || at(b)": "or(at 0, at 1)", "at(a) || at(b) && full(a)": "or(at 0, and(at 1, eq(len 0, num 3)))", "!(v >= -1)": "not(not(lt(var 0, neg(num 1))))",
	} {
		wantLowered(t, "if "+text+" { }", "block(if("+want+", block))")
		wantLowered(t, "loop 7 while "+text+" { }", "block(loop 7("+want+", block))")
	}
}

func TestP1203Events(t *testing.T) {
	p := lower(t, things+"on ghost h { forget; } on miss { insert a front; } on hit b { } }", usual())
	if !slices.Equal(p.Ghost, []bool{false, false, true, true}) || !slices.Equal(p.Vars, []api.Var{{Lo: -3, Hi: 9}, {Init: 5, Lo: -api.MaxNum, Hi: api.MaxNum}}) || !slices.Equal(p.Tags, []int{3, 255}) {
		t.Errorf("%v", p)
	}
	if len(p.On) != 4 || len(p.On[0]) != 0 || tell(p.On[1]) != "block" || len(p.On[2]) != 0 || tell(p.On[3]) != "block(forget)" || tell(p.Miss) != "block(insert 0 0)" {
		t.Errorf("%v", p)
	}
	if p = lower(t, "policy p { }", api.Caps{Size: 1}); !rule.Same(p, api.Plan{}) {
		t.Errorf("%v", p)
	}
	if p = lower(t, "policy p { queue q ghost; rule r { forget; } }", api.Caps{Size: 1, Queues: []int{1}}); !rule.Same(p, api.Plan{Ghost: []bool{true}, On: [][]api.Act{nil}}) {
		t.Errorf("%v", p)
	}
}

// wantError wants Lower's error, and nothing beside it.
func wantError(t *testing.T, what string, p api.Policy, u api.Typed, c api.Caps, want api.Errno) {
	t.Helper()
	plan, err := rule.Lower(p, u, c)
	if err != want || err != api.OK && !rule.Same(plan, api.Plan{}) {
		t.Errorf("%s: %v, %v; want %v", what, plan, err, want)
	}
}

func TestP1203Errors(t *testing.T) {
	right := whole(t, things+"on miss { loop 3 while true { set v = 1; } } }")
	c := usual()
	u, _ := typed.Check(right, c)
	wrong, other := api.Caps{}, api.Typed{Rounds: []int{7}}
	wantError(t, "all right", right, u, c, api.OK)
	for what, spoil := range map[string]func(p *api.Policy){
		"no rows":          func(p *api.Policy) { *p = api.Policy{} },
		"a tag less":       func(p *api.Policy) { p.Tags = p.Tags[:1] },
		"no miss":          func(p *api.Policy) { p.Miss = -1 },
		"an event":         func(p *api.Policy) { p.On = []int{p.Miss, -1, -1, -1} },
		"an event less":    func(p *api.Policy) { p.On = p.On[:3] },
		"a number":         func(p *api.Policy) { p.Rows[1].N = 7 },
		"kids without end": func(p *api.Policy) { p.Rows[0].Kids = math.MaxInt },
		"a row less":       func(p *api.Policy) { p.Rows = p.Rows[:len(p.Rows)-1] },
	} {
		p := right
		p.Rows = slices.Clone(right.Rows)
		spoil(&p)
		wantError(t, what, p, u, c, api.ErrShape)
		wantError(t, what, p, other, wrong, api.ErrShape)
	}
	for text, err := range map[string]api.Errno{
		"on miss { set v = true; }": api.ErrType, "require 1; ": api.ErrType, "var k = len(a) in 0 .. 9; ": api.ErrConst, "on miss { loop v while true { } }": api.ErrConst, "on hit g { }": api.ErrKind, "on miss { shift a back g front; }": api.ErrKind, "on miss { drop a back; }": api.ErrKind, "rule k { if 1 { } }": api.ErrType,
	} {
		p := whole(t, things+text+" }")
		wantError(t, text, p, other, wrong, err)
		wantError(t, text, p, u, c, err)
	}
	for _, c := range []api.Caps{wrong, {Size: 4, Queues: []int{3, 2, 2}}, {Size: 4, Queues: []int{3, 2, 2, 1, 1}}, {Size: 4, Queues: []int{3, 2, 2, 0}}, {Size: 4, Queues: []int{5, 2, 2, 1}}, {Size: 4, Queues: []int{3, 2, 2, api.MaxCap + 1}}, {Size: api.MaxCap + 1, Queues: []int{3, 2, 2, 1}}, {Size: 0, Queues: []int{1, 1, 1, 1}}} {
		wantError(t, fmt.Sprint(c), right, u, c, api.ErrCaps)
		wantError(t, fmt.Sprint(c), right, other, c, api.ErrCaps)
	}
}

// What Lower takes for types: those that may be, whether or not typed.Check tells them.
func TestP1203Types(t *testing.T) {
	right := whole(t, things+"on miss { loop 3 while true { set v = 1; } } }")
	c := usual()
	u, _ := typed.Check(right, c)
	at := row(t, right, api.NLoop, 0)
	const most = api.MaxNum
	for what, spoil := range map[string]func(u *api.Typed){
		"nothing":           func(u *api.Typed) { *u = api.Typed{} },
		"no vars":           func(u *api.Typed) { u.Vars = nil },
		"a var less":        func(u *api.Typed) { u.Vars = u.Vars[:1] },
		"a var more":        func(u *api.Typed) { u.Vars = append(u.Vars, api.Var{}) },
		"a first one below": func(u *api.Typed) { u.Vars[0].Init = -4 },
		"a first one above": func(u *api.Typed) { u.Vars[0].Init = 10 },
		"a least one":       func(u *api.Typed) { u.Vars[1].Lo = -most - 1 },
		"a greatest one":    func(u *api.Typed) { u.Vars[1].Hi = most + 1 },
		"no range":          func(u *api.Typed) { u.Vars[0] = api.Var{Init: 1, Lo: 1, Hi: 0} },
		"no tags":           func(u *api.Typed) { u.Tags = nil },
		"a tag of 0":        func(u *api.Typed) { u.Tags[0] = 0 },
		"a tag of 256":      func(u *api.Typed) { u.Tags[1] = 256 },
		"a tag more":        func(u *api.Typed) { u.Tags = append(u.Tags, 1) },
		"no rounds":         func(u *api.Typed) { u.Rounds = nil },
		"rounds below 0":    func(u *api.Typed) { u.Rounds[at] = -1 },
		"too many rounds":   func(u *api.Typed) { u.Rounds[at] = api.MaxLoop + 1 },
		"of no loop":        func(u *api.Typed) { u.Rounds[0] = -1 },
		"many of no loop":   func(u *api.Typed) { u.Rounds[len(u.Rounds)-1] = api.MaxLoop + 1 },
		"of no row":         func(u *api.Typed) { u.Rounds = append(u.Rounds, 0) },
		"of too few":        func(u *api.Typed) { u.Rounds = u.Rounds[:len(u.Rounds)-1] },
	} {
		v := api.Typed{Vars: slices.Clone(u.Vars), Tags: slices.Clone(u.Tags), Rounds: slices.Clone(u.Rounds)}
		spoil(&v)
		wantError(t, what, right, v, c, api.ErrRange)
	}
	// These are not what typed.Check tells, but they may be.
	v := api.Typed{Vars: []api.Var{{Init: most, Lo: -most, Hi: most}, {Init: 9, Lo: 9, Hi: 9}}, Tags: []int{255, 1}, Rounds: slices.Repeat([]int{8}, len(u.Rounds))}
	p, err := rule.Lower(right, v, c)
	if err != api.OK || !slices.Equal(p.Vars, v.Vars) || !slices.Equal(p.Tags, v.Tags) || tell(p.Miss) != "block(loop 8(bool 1, block(set 0(num 1))))" {
		t.Errorf("%v, %v", p, err)
	}
	v.Rounds[at] = api.MaxLoop
	if p, err = rule.Lower(right, v, c); err != api.OK || tell(p.Miss) != "block(loop 4194304(bool 1, block(set 0(num 1))))" {
		t.Errorf("%v, %v", p, err)
	}
	// A requirement that does not hold, a range that may not be are none of its errors.
	bad := whole(t, "policy p { queue q resident; var v = 3 in 0 .. 1; require size == 7; on miss { set v = size; } }")
	p, err = rule.Lower(bad, api.Typed{Vars: []api.Var{{}}, Rounds: make([]int, len(bad.Rows))}, api.Caps{Size: 2, Queues: []int{2}})
	if err != api.OK || tell(p.Miss) != "block(set 0(num 2))" {
		t.Errorf("%v, %v", p, err)
	}
	// No list and an empty one are the same.
	none := whole(t, "policy p { queue a resident; }")
	wantError(t, "empty lists", none, api.Typed{Vars: []api.Var{}, Tags: []int{}, Rounds: []int{0, 0}}, api.Caps{Size: 1, Queues: []int{1}}, api.OK)
	none.Vars, none.Tags, none.Rules = []string{}, []string{}, []int{}
	wantError(t, "no lists", none, api.Typed{Rounds: []int{0, 0}}, api.Caps{Size: 1, Queues: []int{1}}, api.OK)
}

func TestP1204(t *testing.T) {
	const most = api.MaxCap
	kinds := func(residents, ghosts int) api.Plan {
		p := api.Plan{Ghost: make([]bool, residents+ghosts), On: make([][]api.Act, residents+ghosts)}
		for q := range ghosts {
			p.Ghost[residents+q] = true
		}
		return p
	}
	bad := kinds(1, 1)
	bad.Miss = acts("block(forget, block(tell))")
	for _, c := range []struct {
		p    api.Plan
		c    api.Caps
		want api.Errno
	}{
		{kinds(1, 1), api.Caps{Size: 3, Queues: []int{3, 7}}, api.OK}, {kinds(1, 1), api.Caps{Size: 3, Queues: []int{4, 7}}, api.ErrCaps}, {kinds(1, 1), api.Caps{Size: 3, Queues: []int{0, 7}}, api.ErrCaps}, {kinds(1, 1), api.Caps{Size: 3, Queues: []int{3, 0}}, api.ErrCaps}, {kinds(1, 1), api.Caps{Size: 3, Queues: []int{3, -1}}, api.ErrCaps},
		{kinds(1, 1), api.Caps{Size: 3, Queues: []int{3}}, api.ErrCaps}, {kinds(1, 1), api.Caps{Size: 3, Queues: []int{3, 3, 3}}, api.ErrCaps}, {kinds(1, 1), api.Caps{Size: 3}, api.ErrCaps}, {kinds(1, 1), api.Caps{Size: 0, Queues: []int{1, 1}}, api.ErrCaps}, {kinds(1, 1), api.Caps{Size: -1, Queues: []int{1, 1}}, api.ErrCaps},
		{kinds(1, 1), api.Caps{Size: most, Queues: []int{most, most}}, api.OK}, {kinds(1, 1), api.Caps{Size: most + 1, Queues: []int{most, most}}, api.ErrCaps}, {kinds(1, 1), api.Caps{Size: most, Queues: []int{most, most + 1}}, api.ErrCaps}, {kinds(1, 1), api.Caps{Size: most, Queues: []int{most + 1, most}}, api.ErrCaps},
		{kinds(0, 0), api.Caps{Size: 1}, api.OK}, {kinds(0, 0), api.Caps{Size: most}, api.OK}, {kinds(0, 0), api.Caps{}, api.ErrCaps}, {kinds(0, 0), api.Caps{Size: 1, Queues: []int{1}}, api.ErrCaps}, {kinds(0, 1), api.Caps{Size: 1, Queues: []int{most}}, api.OK},
		// As many nodes as there may be, and one more.
		{kinds(0, 4), api.Caps{Size: 1, Queues: []int{most, most, most, most}}, api.OK}, {kinds(0, 5), api.Caps{Size: 1, Queues: []int{most, most, most, most, 1}}, api.ErrCaps}, {kinds(1, 4), api.Caps{Size: 1, Queues: []int{1, most, most, most, most}}, api.ErrCaps}, {kinds(1, 4), api.Caps{Size: 1, Queues: []int{1, most, most, most, most - 1}}, api.OK},
		{kinds(3, 3), api.Caps{Size: most, Queues: []int{most, most, most, most, most, most}}, api.OK}, {kinds(3, 4), api.Caps{Size: most, Queues: []int{most, most, most, most, most, most, 1}}, api.ErrCaps}, {kinds(2, 4), api.Caps{Size: most, Queues: []int{1, 2, most, most, most, most - 3}}, api.OK}, {kinds(2, 4), api.Caps{Size: most, Queues: []int{1, 2, most, most, most, most - 2}}, api.ErrCaps},
		{kinds(2, 1), api.Caps{Size: 3, Queues: []int{math.MaxInt, 1, 1}}, api.ErrCaps}, {kinds(1, 2), api.Caps{Size: 3, Queues: []int{1, math.MaxInt, math.MaxInt}}, api.ErrCaps}, {kinds(1, 2), api.Caps{Size: math.MinInt, Queues: []int{1, math.MinInt, 1}}, api.ErrCaps},
		{bad, api.Caps{Size: 3, Queues: []int{3, 3}}, api.ErrPlan}, {bad, api.Caps{}, api.ErrPlan}, {api.Plan{Tags: []int{0}}, api.Caps{Size: 1}, api.ErrPlan}, {api.Plan{On: make([][]api.Act, 1)}, api.Caps{}, api.ErrPlan},
	} {
		if m, err := rule.New(c.p, c.c); err != c.want || (m == nil) != (err != api.OK) {
			t.Errorf("%v, %v: %v, %v; want %v", c.p, c.c, m != nil, err, c.want)
		}
	}
	m := open(t, plan(nil), usual())
	if tellState(m.State()) != "/ / / ; 0 5" || m.Stats() != (api.Stats{}) {
		t.Errorf("%v, %v", m.State(), m.Stats())
	}
}

func TestExamples(t *testing.T) {
	p := lower(t, "policy p { queue q resident; on miss { if full(q) { evict q back; } insert q front; } }", api.Caps{Size: 5, Queues: []int{5}})
	want := []api.Act{{Kind: api.RBlock, Kids: 2}, {Kind: api.RIf, Kids: 2}, {Kind: api.REq, Kids: 2}, {Kind: api.RLen}, {Kind: api.RNum, A: 5}, {Kind: api.RBlock, Kids: 3}, {Kind: api.RTake, B: 1}, {Kind: api.RTell}, {Kind: api.RLoose}, {Kind: api.RInsert}}
	if !slices.Equal(p.Miss, want) {
		t.Errorf("1.: %v", p.Miss)
	}
	wantLowered(t, "pass;", "block")
	wantLowered(t, "if v > w { }", "block(if(not(le(var 0, var 1)), block))")
	wantRight(t, "3.", plan(acts("block(take 0 1, insert 0 0, loose)")), false)
	wantRight(t, "3.", plan(acts("block(take 0 0, loose)")), false)
	wantRight(t, "3.", plan(acts("block(if(num 1, block))")), false)
}
