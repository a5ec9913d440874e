package cost_test

import (
	"fmt"
	"math"
	"math/rand"
	"slices"
	"strings"
	"testing"
	"time"

	"winnow/api"
	"winnow/cost"
	"winnow/gram"
	"winnow/names"
	"winnow/typed"
)

// Texts by chance, against the plain reading of the chapter.
func TestChanceTexts(t *testing.T) {
	counts := map[api.Errno]int{}
	for seed := range int64(2500) {
		m := newMaker(seed)
		p, text := m.policy(1 + m.Intn(6))
		rounds := m.roundsOf(p, []int{2, 9, 1 << 16, api.MaxLoop}[seed%4])
		want, wanted := newPlain(p, rounds).told()
		got, fault := cost.Bound(p, api.Typed{Rounds: rounds})
		if fault != wanted || !sameCosts(got, want) {
			t.Fatalf("%s\n%v: %v, %v; want %v, %v", text, rounds, got, fault, want, wanted)
		}
		counts[fault.Err]++
	}
	if counts[api.ErrCost] < 50 || counts[api.OK] < 1000 {
		t.Errorf("what was met: %v", counts)
	}
}

// ints are numbers of every size, and those at which something turns.
func ints(r *rand.Rand, n int) []int {
	list := make([]int, n)
	for i := range list {
		switch r.Intn(4) {
		case 0:
			list[i] = []int{0, 1, -1, 2, 3, 1 << 31, 1<<31 - 1, 1 << 61, 1<<61 - 1, api.MaxSum, api.MaxSum - 1, api.MaxSum + 1, math.MaxInt, math.MinInt}[r.Intn(14)]
		case 1:
			list[i] = int(r.Uint64()) >> r.Intn(64)
		default:
			list[i] = int(r.Uint64() >> (1 + r.Intn(63)))
		}
	}
	return list
}

func TestP1001AnyInts(t *testing.T) {
	r := rand.New(rand.NewSource(1001))
	for n := range 60000 {
		list := ints(r, n%7)
		if got, want := cost.Sum(list...), plainSum(list); got != want {
			t.Fatalf("Sum(%v): %d; want %d", list, got, want)
		}
		if got, want := cost.Times(list...), plainTimes(list); got != want {
			t.Fatalf("Times(%v): %d; want %d", list, got, want)
		}
	}
}

func TestP1005Numbers(t *testing.T) {
	r := rand.New(rand.NewSource(1005))
	for range 20000 {
		list := ints(r, 1+r.Intn(6))
		for name, of := range map[string]func(l ...int) int{"Sum": cost.Sum, "Times": cost.Times} {
			whole := of(list...)
			other := slices.Clone(list)
			r.Shuffle(len(other), func(i, j int) { other[i], other[j] = other[j], other[i] })
			if got := of(other...); got != whole {
				t.Fatalf("%s(%v): %d; of %v: %d", name, list, whole, other, got)
			}
			var parts []int
			for rest := other; len(rest) > 0; {
				n := 1 + r.Intn(len(rest))
				parts, rest = append(parts, of(rest[:n]...)), rest[n:]
			}
			if got := of(parts...); got != whole {
				t.Fatalf("%s(%v): %d; of %v, put together as %v: %d", name, list, whole, other, parts, got)
			}
			if whole < 0 || whole > api.MaxSum || name == "Times" && slices.Min(list) <= 0 {
				continue
			}
			if most := slices.Max(list); whole < min(most, api.MaxSum) {
				t.Fatalf("%s(%v): %d", name, list, whole)
			}
		}
	}
}

// wantNotLess wants no bound of the second policy to be less than the first one's. (A fault is above all bounds.)
func wantNotLess(t *testing.T, what string, p api.Policy, rounds []int, q api.Policy, others []int) (more bool) {
	t.Helper()
	first, fault := cost.Bound(p, api.Typed{Rounds: rounds})
	second, other := cost.Bound(q, api.Typed{Rounds: others})
	if fault.Err == api.ErrCost && other.Err != api.ErrCost {
		t.Fatalf("%s: %v, then %v, %v", what, fault, second, other)
	}
	if fault.Err != api.OK || other.Err == api.ErrCost {
		return false
	}
	if fault != (api.Fault{}) || other != (api.Fault{}) {
		t.Fatalf("%s: %v, then %v", what, fault, other)
	}
	less := second.Miss < first.Miss
	more = second.Miss > first.Miss
	for i := range first.On {
		less = less || second.On[i] < first.On[i]
		more = more || second.On[i] > first.On[i]
	}
	if less {
		t.Fatalf("%s: %v, then %v", what, first, second)
	}
	return more
}

func TestP1005Rounds(t *testing.T) {
	more := 0
	for seed := range int64(1000) {
		m := newMaker(seed)
		p, text := m.policy(1 + m.Intn(4))
		rounds := m.roundsOf(p, []int{3, 1000, api.MaxLoop}[seed%3])
		for range 5 {
			others := slices.Clone(rounds)
			for at := range others {
				if m.Intn(4) == 0 {
					others[at] = min(others[at]+m.Intn(1+m.Intn(1<<20)), api.MaxLoop)
				}
			}
			if wantNotLess(t, text, p, rounds, p, others) {
				more++
			}
		}
	}
	if more < 1000 {
		t.Errorf("only %d were more", more)
	}
}

// changed is a policy with other rows in the place of those from one to another; false, if it is none.
func changed(p api.Policy, from, to int, rows []api.Row) (api.Policy, bool) {
	list := slices.Concat(p.Rows[:from], rows, p.Rows[to:])
	for at := range list {
		if list[at].Kind != api.NNum {
			list[at].N = 0
		}
	}
	q, fault := names.Resolve(list)
	return q, fault == (api.Fault{})
}

// doings are such as may stand in each block of the maker's.
func doings() [][]api.Row {
	return [][]api.Row{
		{{Kind: api.NPass}}, {{Kind: api.NBlock}}, {{Kind: api.NEvict, Name: "a", Kids: 1}, {Kind: api.NPlace, Name: "g"}},
		{{Kind: api.NIf, Kids: 2}, {Kind: api.NTrue}, {Kind: api.NBlock, Kids: 1}, {Kind: api.NForget}},
		{{Kind: api.NLoop, Kids: 3}, {Kind: api.NNum, N: 3}, {Kind: api.NFull, Name: "b"}, {Kind: api.NBlock}},
		{{Kind: api.NMark, Name: "t", Kids: 2}, {Kind: api.NX}, {Kind: api.NNum}},
	}
}

func TestP1005Doings(t *testing.T) {
	more := 0
	for seed := range int64(800) {
		m := newMaker(seed)
		p, text := m.policy(1 + m.Intn(4))
		rounds := m.roundsOf(p, []int{3, 1000}[seed%2])
		for at, row := range p.Rows {
			if row.Kind != api.NBlock || m.Intn(8) > 0 {
				continue
			}
			kids := append(gram.Kids(p.Rows, at), gram.End(p.Rows, at))
			put := kids[m.Intn(len(kids))]
			rows := doings()[m.Intn(len(doings()))]
			list := slices.Concat(p.Rows[at:put], rows)
			list[0].Kids++
			q, is := changed(p, at, put, list)
			if !is {
				continue
			}
			others := slices.Concat(rounds[:put], m.roundsOf(api.Policy{Rows: rows}, 5), rounds[put:])
			if wantNotLess(t, text, p, rounds, q, others) {
				more++
			}
		}
	}
	if more < 600 {
		t.Errorf("only %d were more", more)
	}
}

// above are expressions that have one as a kid.
func above(one []api.Row) [][]api.Row {
	other := []api.Row{{Kind: api.NSize}}
	return [][]api.Row{
		slices.Concat([]api.Row{{Kind: api.NNeg, Kids: 1}}, one), slices.Concat([]api.Row{{Kind: api.NNot, Kids: 1}}, one),
		slices.Concat([]api.Row{{Kind: api.NAdd, Kids: 2}}, one, other), slices.Concat([]api.Row{{Kind: api.NMin, Kids: 2}}, other, one),
		slices.Concat([]api.Row{{Kind: api.NAnd, Kids: 2}}, one, other), slices.Concat([]api.Row{{Kind: api.NOr, Kids: 2}}, other, one),
	}
}

func TestP1005Expressions(t *testing.T) {
	more := 0
	for seed := range int64(600) {
		m := newMaker(seed)
		p, text := m.policy(1 + m.Intn(4))
		rounds := m.roundsOf(p, []int{3, 1000}[seed%2])
		for at, row := range p.Rows {
			if row.Kind < api.NNum || m.Intn(40) > 0 {
				continue
			}
			end := gram.End(p.Rows, at)
			rows := above(p.Rows[at:end])[m.Intn(6)]
			q, is := changed(p, at, end, rows)
			if !is {
				continue
			}
			// No loop is in an expression: what its rows have is not used.
			others := slices.Concat(rounds[:at], make([]int, len(rows)), rounds[end:])
			if wantNotLess(t, text, p, rounds, q, others) {
				more++
			}
		}
	}
	if more < 600 {
		t.Errorf("only %d were more", more)
	}
}

// run begins rows as chapter 11 has them, and counts them. What a condition comes to is taken from a list, or is false: so each run of the meaning is one of these, whatever its state was.
type run struct {
	p      api.Policy
	rounds []int
	truths []bool
	asked  int
	steps  int
}

func (r *run) answer() bool {
	r.asked++
	return r.asked <= len(r.truths) && r.truths[r.asked-1]
}

func (r *run) all(kids ...int) {
	for _, kid := range kids {
		r.begin(kid)
	}
}

func (r *run) begin(at int) {
	r.steps++
	row, kids := r.p.Rows[at], gram.Kids(r.p.Rows, at)
	switch row.Kind {
	case api.NIf:
		r.begin(kids[0])
		if r.answer() {
			r.begin(kids[1])
		} else if len(kids) == 3 {
			r.begin(kids[2])
		}
	case api.NLoop:
		for range r.rounds[at] {
			r.begin(kids[1])
			if !r.answer() {
				break
			}
			r.begin(kids[2])
		}
	case api.NCall:
		r.begin(r.p.Rules[row.N])
	case api.NShift, api.NEvict: // its place is neither done nor reckoned
	case api.NAnd, api.NOr:
		r.begin(kids[0])
		if r.answer() {
			r.begin(kids[1])
		}
	default:
		r.all(kids...)
	}
}

// wantRun wants a run to take no more steps than the bound.
func wantRun(t *testing.T, text string, r *run, block, bound int) {
	t.Helper()
	if r.begin(block); r.steps > bound {
		t.Fatalf("%s\n%v: the block %d took %d steps; its bound is %d", text, r.rounds, block, r.steps, bound)
	}
}

// longest goes through all runs of a block, by which answers they are given, and tells the most steps; false, if there are too many runs.
func longest(t *testing.T, text string, p api.Policy, rounds []int, block, bound int) (steps int, all bool) {
	t.Helper()
	truths := []bool{}
	for range 1000 {
		r := &run{p: p, rounds: rounds, truths: truths}
		wantRun(t, text, r, block, bound)
		steps = max(steps, r.steps)
		truths = append(truths, make([]bool, max(0, r.asked-len(truths)))...)
		last := len(truths) - 1
		for last >= 0 && truths[last] {
			last--
		}
		if last < 0 {
			return steps, true
		}
		truths = truths[:last+1]
		truths[last] = true
	}
	return steps, false
}

// No run takes more steps than the bound, and of free answers one takes just so many.
func TestP1004(t *testing.T) {
	complete := 0
	for seed := range int64(1000) {
		m := newMaker(seed)
		p, text := m.policy(1 + m.Intn(3))
		rounds := m.roundsOf(p, 2)
		costs, fault := cost.Bound(p, api.Typed{Rounds: rounds})
		if fault != (api.Fault{}) {
			t.Fatal(fault)
		}
		for i, block := range append(slices.Clone(p.On), p.Miss) {
			bound := append(slices.Clone(costs.On), costs.Miss)[i]
			if block < 0 {
				if bound != 0 {
					t.Fatalf("%s\n%d of no event", text, bound)
				}
				continue
			}
			steps, all := longest(t, text, p, rounds, block, bound)
			if all && steps != bound {
				t.Fatalf("%s\n%v: the longest run of the block %d takes %d steps; its bound is %d", text, rounds, block, steps, bound)
			}
			if all {
				complete++
			}
		}
	}
	if complete < 1000 {
		t.Errorf("only of %d events all runs were gone through", complete)
	}
}

// The papers' texts, with answers by chance.
func TestP1004Published(t *testing.T) {
	r := rand.New(rand.NewSource(1004))
	for _, text := range published {
		p := whole(t, text)
		c := api.Caps{Size: 12, Queues: slices.Repeat([]int{12}, len(p.Queues))}
		u, fault := typed.Check(p, c)
		if fault != (api.Fault{}) {
			t.Fatal(fault)
		}
		costs, fault := cost.Bound(p, u)
		if fault != (api.Fault{}) {
			t.Fatal(fault)
		}
		for n := range 60 {
			truths := make([]bool, 20000)
			for i := range truths {
				truths[i] = r.Intn(20) > n%20
			}
			for i, block := range append(slices.Clone(p.On), p.Miss) {
				if block >= 0 {
					wantRun(t, text, &run{p: p, rounds: u.Rounds, truths: truths}, block, append(slices.Clone(costs.On), costs.Miss)[i])
				}
			}
		}
	}
}

// Whatever is handed in, Bound ends.
func TestP1AnyPolicy(t *testing.T) {
	r := rand.New(rand.NewSource(1003))
	odd := func() int {
		return []int{0, 1, 2, 3, -1, -2, r.Intn(20), r.Intn(100), math.MaxInt, math.MinInt}[r.Intn(10)]
	}
	right := 0
	for seed := range int64(2500) {
		m := newMaker(seed % 60)
		p, _ := m.policy(3)
		rounds := m.roundsOf(p, 9)
		for range 1 + r.Intn(2) {
			at := r.Intn(len(p.Rows))
			switch r.Intn(7) {
			case 0:
				p.Rows[at].Kind = r.Intn(api.NCount+2) - 1
			case 1:
				p.Rows[at].N = odd()
			case 2:
				p.Rows[at].Kids = odd()
			case 3:
				p.Rows = p.Rows[:r.Intn(len(p.Rows))+1]
			case 4:
				rounds[r.Intn(len(rounds))] = odd()
			case 5:
				p.Rules = append(p.Rules, odd())
			case 6:
				p.On[r.Intn(len(p.On))] = odd()
			}
		}
		got, fault := cost.Bound(p, api.Typed{Rounds: rounds})
		err := names.Check(p)
		if err != api.OK && fault != (api.Fault{Err: err}) || fault != (api.Fault{}) && !sameCosts(got, api.Costs{}) {
			t.Fatalf("%v, %v; want %v", got, fault, err)
		}
		if fault == (api.Fault{}) {
			right++
		}
	}
	if right < 200 {
		t.Errorf("only %d were right", right)
	}
}

// within wants something to be done in a moment.
func within(t *testing.T, what string, do func()) {
	t.Helper()
	start := time.Now()
	do()
	if took := time.Since(start); took > 10*time.Second {
		t.Errorf("%s took %v", what, took)
	}
}

// As many rows as an event may have, each below the one ahead.
func TestDeepTrees(t *testing.T) {
	within(t, "a sum", func() { wantBound(t, "set v = "+strings.Repeat("1 + ", 8000)+"1;", 16002) })
	within(t, "an else-if", func() {
		wantBound(t, strings.Repeat("if full(g) { drop g back; } else ", 4000)+"{ pass; }", 8002)
	})
	within(t, "doings", func() { wantBound(t, strings.Repeat("pass; ", 16000), 16000) })
	within(t, "blocks", func() { wantBound(t, strings.Repeat("{ ", 60)+strings.Repeat("} ", 60), 60) })
	within(t, "a loop's first expression", func() {
		wantBound(t, "loop "+strings.Repeat("1 - ", 8000)+"1 while true { }", 7, 3)
	})
	text, want := things+"rule r0 { pass; } ", 2
	for i := range 11 {
		text += fmt.Sprintf("rule r%d { call r%d; call r%d; } ", i+1, i, i)
		want = 3 + 2*want
	}
	within(t, "calls", func() {
		p := whole(t, text+"on miss { call r11; } }")
		wantCosts(t, p, withRounds(t, p), api.Costs{On: []int{0, 0}, Miss: 2 + want})
	})
	// What is called by no event may be as much as it likes.
	for i := 11; i < api.MaxRules-2; i++ {
		text += fmt.Sprintf("rule r%d { call r%d; call r%d; } ", i+1, i, i)
	}
	within(t, "calls that nobody calls", func() {
		p := whole(t, text+"on hit q { call r2; } }")
		wantCosts(t, p, withRounds(t, p), api.Costs{On: []int{2 + 17, 0}})
	})
}

// As many loops in one another as there may be, by rules.
func TestDeepLoops(t *testing.T) {
	text := things
	loops, ends := strings.Repeat("loop 2 while true { ", 60), strings.Repeat("} ", 60)
	for i := range api.MaxRules - 1 {
		inner := "pass;"
		if i > 0 {
			inner = fmt.Sprintf("call r%d;", i-1)
		}
		text += fmt.Sprintf("rule r%d { %s%s %s} ", i, loops, inner, ends)
	}
	p := whole(t, text+"on hit q { pass; } on miss { call r62; } }")
	for _, n := range []int{0, 1, 2, api.MaxLoop} {
		rounds := slices.Repeat([]int{n}, len(p.Rows))
		want, wanted := newPlain(p, rounds).told()
		if got, fault := cost.Bound(p, api.Typed{Rounds: rounds}); fault != wanted || !sameCosts(got, want) {
			t.Errorf("%d: %v, %v; want %v, %v", n, got, fault, want, wanted)
		}
	}
}

const ordinary = "rule s { if !empty(q) { evict q back; } } on hit q { set v = len(q); move q front; } on ghost g { if v == 3 { forget; } } on miss { loop 3 while !empty(q) { evict q back to g front; set v = 1; } call s; call r; }"

// spare is a list with spare room behind it, in which something stands.
func spare[T any](list []T, last T) []T {
	return append(slices.Clone(list), last, last)[:len(list)]
}

func TestP2NothingIsChanged(t *testing.T) {
	p := policy(t, ordinary)
	u, _ := typed.Check(p, api.Caps{Size: 3, Queues: []int{3, 3}})
	p.Rows, p.Queues, p.Rules, p.On = spare(p.Rows, api.Row{Kind: api.NPass}), spare(p.Queues, api.Queue{Name: "spare"}), spare(p.Rules, -7), spare(p.On, -7)
	u.Vars, u.Tags, u.Rounds = spare(u.Vars, api.Var{Init: -7}), spare(u.Tags, -7), spare(u.Rounds, -7)
	rows, queues, rules, on := slices.Clone(p.Rows[:cap(p.Rows)]), slices.Clone(p.Queues[:cap(p.Queues)]), slices.Clone(p.Rules[:cap(p.Rules)]), slices.Clone(p.On[:cap(p.On)])
	vars, tags, rounds := slices.Clone(u.Vars[:cap(u.Vars)]), slices.Clone(u.Tags[:cap(u.Tags)]), slices.Clone(u.Rounds[:cap(u.Rounds)])
	if _, fault := cost.Bound(p, u); fault != (api.Fault{}) {
		t.Fatal(fault)
	}
	if !slices.Equal(rows, p.Rows[:cap(p.Rows)]) || !slices.Equal(queues, p.Queues[:cap(p.Queues)]) || !slices.Equal(rules, p.Rules[:cap(p.Rules)]) || !slices.Equal(on, p.On[:cap(p.On)]) {
		t.Error("the policy is changed")
	}
	if !slices.Equal(vars, u.Vars[:cap(u.Vars)]) || !slices.Equal(tags, u.Tags[:cap(u.Tags)]) || !slices.Equal(rounds, u.Rounds[:cap(u.Rounds)]) {
		t.Error("types are changed")
	}
	list := spare([]int{5, -3, 1 << 62, 0, 7, math.MaxInt}, -7)
	kept := slices.Clone(list[:cap(list)])
	cost.Sum(list...)
	cost.Times(list...)
	cost.Times(list[4:]...)
	if !slices.Equal(kept, list[:cap(list)]) {
		t.Error("numbers are changed")
	}
}

func TestP2NothingIsShared(t *testing.T) {
	p := policy(t, ordinary)
	u, _ := typed.Check(p, api.Caps{Size: 3, Queues: []int{3, 3}})
	got, _ := cost.Bound(p, u)
	want := api.Costs{On: slices.Clone(got.On), Miss: got.Miss}
	on, rounds := slices.Clone(p.On), slices.Clone(u.Rounds)
	for i := range got.On[:cap(got.On)] {
		got.On[:cap(got.On)][i] = -7
	}
	if !slices.Equal(on, p.On) || !slices.Equal(rounds, u.Rounds) {
		t.Error("what was handed in is shared")
	}
	wantCosts(t, p, u, want)
}

func TestP3Again(t *testing.T) {
	for seed := range int64(60) {
		m := newMaker(seed)
		p, _ := m.policy(4)
		u := api.Typed{Rounds: m.roundsOf(p, api.MaxLoop)}
		first, fault := cost.Bound(p, u)
		for range 5 {
			if again, f := cost.Bound(p, u); f != fault || !sameCosts(again, first) {
				t.Fatalf("%v, %v; it was %v, %v", again, f, first, fault)
			}
		}
	}
}
