package names_test

import (
	"fmt"
	"math"
	"math/rand"
	"slices"
	"strconv"
	"testing"

	"winnow/api"
	"winnow/gram"
	"winnow/names"
)

// copied is a policy that shares no memory.
func copied(p api.Policy) api.Policy {
	p.Rows, p.Queues, p.Vars, p.Tags = slices.Clone(p.Rows), slices.Clone(p.Queues), slices.Clone(p.Vars), slices.Clone(p.Tags)
	p.Rules, p.On = slices.Clone(p.Rules), slices.Clone(p.On)
	return p
}

const ordinary = `queue small resident; queue gone ghost; queue main resident; tag freq in 3; tag other in 1; var done = 0 in 0 .. 1; var n = 5 in 1 .. size;
	require cap(small) == size && 1 < 2;
	rule one { loop 3 * cap(main) while !empty(main) && freq(back(main)) > 0 { mark back(main) freq = freq(back(main)) - 1; shift main back main front; } if !empty(main) { evict main back; } }
	rule two { set done = 0; call one; if full(gone) { drop gone back; } else if at(gone) { forget; } else { call one; { call one; } } evict small back to gone front; }
	on hit small { mark x freq = freq(x) + 1; set n = max(n, len(gone)); }
	on miss { call two; call one; insert small front; }
	on ghost gone { call two; move main front; }`

// Each number and each name of a policy counts.
func TestP702Changed(t *testing.T) {
	p := wantRight(t, ordinary)
	refused := func(what string, do func(q *api.Policy)) {
		t.Helper()
		q := copied(p)
		do(&q)
		if err := names.Check(q); err != api.ErrShape {
			t.Errorf("%s: %v", what, err)
		}
	}
	refused("its name", func(q *api.Policy) { q.Name = "q" })
	refused("no name", func(q *api.Policy) { q.Name = "" })
	refused("its name in the rows", func(q *api.Policy) { q.Rows[0].Name = "q" })
	refused("no rows", func(q *api.Policy) { q.Rows = nil })
	refused("a row less", func(q *api.Policy) { q.Rows = q.Rows[:len(q.Rows)-1] })
	refused("no miss", func(q *api.Policy) { q.Miss = -1 })
	refused("another miss", func(q *api.Policy) { q.Miss++ })
	for i := range p.Queues {
		refused("a queue's name", func(q *api.Policy) { q.Queues[i].Name += "a" })
		refused("a queue's kind", func(q *api.Policy) { q.Queues[i].Ghost = !q.Queues[i].Ghost })
		refused("an event less", func(q *api.Policy) { q.On[i] = -1 - i })
		refused("another event", func(q *api.Policy) { q.On[i]++ })
	}
	refused("a queue more", func(q *api.Policy) { q.Queues = append(q.Queues, api.Queue{Name: "more"}) })
	refused("a queue less", func(q *api.Policy) { q.Queues = q.Queues[:2] })
	refused("an event's place more", func(q *api.Policy) { q.On = append(q.On, -1) })
	refused("an event's place less", func(q *api.Policy) { q.On = q.On[:2] })
	refused("a var less", func(q *api.Policy) { q.Vars = q.Vars[:1] })
	refused("a var more", func(q *api.Policy) { q.Vars = append(q.Vars, "more") })
	refused("another order of vars", func(q *api.Policy) { slices.Reverse(q.Vars) })
	refused("a tag less", func(q *api.Policy) { q.Tags = q.Tags[:1] })
	refused("a tag more", func(q *api.Policy) { q.Tags = append(q.Tags, "more") })
	refused("another order of tags", func(q *api.Policy) { slices.Reverse(q.Tags) })
	refused("a rule less", func(q *api.Policy) { q.Rules = q.Rules[:1] })
	refused("a rule more", func(q *api.Policy) { q.Rules = append(q.Rules, 0) })
	refused("another place of a rule", func(q *api.Policy) { q.Rules[1]-- })
	for at, row := range p.Rows {
		for _, n := range []int{-1, row.N - 1, row.N + 1, math.MaxInt, math.MinInt} {
			if row.Kind == api.NNum && n == row.N+1 {
				continue
			}
			if row.Kind == api.NNum && n == row.N-1 && n >= 0 {
				continue
			}
			refused(fmt.Sprintf("row %d with N %d", at, n), func(q *api.Policy) { q.Rows[at].N = n })
		}
		refused(fmt.Sprintf("row %d with another end", at), func(q *api.Policy) { q.Rows[at].End += 2 })
		refused(fmt.Sprintf("row %d with more kids", at), func(q *api.Policy) { q.Rows[at].Kids++ })
		if row.Name != "" {
			refused(fmt.Sprintf("row %d with another name", at), func(q *api.Policy) { q.Rows[at].Name = "unlike" })
		}
	}
}

// What may be otherwise: a written number (it means itself), an end, and lists that are empty.
func TestP702Taken(t *testing.T) {
	p := wantRight(t, ordinary)
	for at, row := range p.Rows {
		q := copied(p)
		switch {
		case row.Kind == api.NNum:
			q.Rows[at].N = 1 - row.N&1
		case row.Kind == api.NInsert || row.Kind == api.NPlace:
			q.Rows[at].End = 1 - row.End
		case row.Kind == api.NPass:
			q.Rows[at].Kind = api.NForget
		}
		if err := names.Check(q); err != api.OK {
			t.Errorf("row %d, %v: %v", at, q.Rows[at], err)
		}
	}
	bare := api.Policy{Name: "p", Rows: []api.Row{{Kind: api.NPolicy, Name: "p"}}, Miss: -1}
	full := bare
	full.Queues, full.Vars, full.Tags, full.Rules, full.On = []api.Queue{}, []string{}, []string{}, []int{}, []int{}
	if names.Check(bare) != api.OK || names.Check(full) != api.OK {
		t.Error("no list and an empty one")
	}
	bare.Miss = 0
	if names.Check(bare) != api.ErrShape || names.Check(api.Policy{}) != api.ErrShape || names.Check(api.Policy{Miss: -1}) != api.ErrShape {
		t.Error("no policies")
	}
}

// Rows with a fault are no policy, whatever else there is.
func TestP702Faults(t *testing.T) {
	for _, inner := range []string{
		"queue a ghost; queue a ghost;", "on miss { call r; }", "queue a ghost; on miss { call a; }", "on miss { } on miss { }", "queue a ghost; on hit a { } on hit a { }",
		"tag a in 1; tag b in 1; tag c in 1; tag d in 1; tag e in 1;", "on miss { " + passes(api.MaxLaid) + "}",
	} {
		rows := parsed(t, "policy p { "+inner+" }")
		if err := names.Check(newPlain(rows).policy()); err != api.ErrShape {
			t.Errorf("%.100s: %v", inner, err)
		}
	}
}

// A sum that is MaxSum, and those around it.
func TestP703MostSum(t *testing.T) {
	// Rule k of the doubled ones has 5 * 2^(k-1) - 3 rows, the first with a pass; with n rows in the first one (n + 3) * 2^(k-1) - 3.
	of := func(n, k int) string {
		text := "rule r1 { " + passes(n-1) + "} "
		for i := 2; i <= k; i++ {
			text += fmt.Sprintf("rule r%d { call r%d; call r%d; } ", i, i-1, i-1)
		}
		return text
	}
	for _, c := range []struct {
		n, k int
		more int // behind a call of the last one
		want int
	}{
		{1, 61, 0, api.MaxSum - 1}, {1, 61, 1, api.MaxSum}, {1, 61, 2, api.MaxSum}, {1, 61, 3, api.MaxSum}, {1, 61, 9, api.MaxSum},
		{5, 60, 0, api.MaxSum - 1}, {5, 60, 1, api.MaxSum}, {5, 60, 2, api.MaxSum},
		{1, 60, 0, api.MaxSum/2 - 1}, {1, 60, 1, api.MaxSum / 2}, {1, 60, 2, api.MaxSum/2 + 1},
		{1, 62, 0, api.MaxSum}, {1, 62, 5, api.MaxSum}, {1, 63, 1, api.MaxSum},
	} {
		p := wantRight(t, of(c.n, c.k)+fmt.Sprintf("rule last { call r%d; %s}", c.k, passes(c.more)))
		block := p.Rules[len(p.Rules)-1]
		if got := names.Laid(p, block); got != c.want {
			t.Errorf("%d rows, %d rules, %d more: %d; want %d", c.n, c.k, c.more, got, c.want)
		}
		wantLaid(t, p)
	}
	p := wantRight(t, of(1, 61)+"rule two { call r61; call r61; call r61; call r61; } rule three { call two; call two; pass; }")
	wantLaid(t, p)
	if got := names.Laid(p, 0); got != api.MaxSum {
		t.Errorf("all of it: %d", got)
	}
}

// wantLaid wants of each row what the plain one tells.
func wantLaid(t *testing.T, p api.Policy) {
	t.Helper()
	whole := newPlain(p.Rows)
	for at := range p.Rows {
		if got, want := names.Laid(p, at), whole.told(at); got != want {
			t.Fatalf("Laid of row %d, %v: %d; want %d", at, p.Rows[at], got, want)
		}
	}
}

// wantSums wants the sums of P704.
func wantSums(t *testing.T, p api.Policy) {
	t.Helper()
	for at, row := range p.Rows {
		sum := 1
		for _, kid := range gram.Kids(p.Rows, at) {
			sum += names.Laid(p, kid)
		}
		if row.Kind == api.NCall {
			sum += names.Laid(p, p.Rules[row.N])
		}
		if got := names.Laid(p, at); got != sum {
			t.Fatalf("Laid of row %d, %v: %d; want %d", at, row, got, sum)
		}
	}
}

// wantAhead wants that rules call those ahead of them alone, so that a row of calls is short.
func wantAhead(t *testing.T, p api.Policy) {
	t.Helper()
	for number, block := range p.Rules {
		for at := block; at < gram.End(p.Rows, block); at++ {
			if p.Rows[at].Kind == api.NCall && p.Rows[at].N >= number {
				t.Fatalf("rule %d calls rule %d", number, p.Rows[at].N)
			}
		}
	}
	if len(p.Rules) > api.MaxRules {
		t.Fatalf("%d rules", len(p.Rules))
	}
}

func TestP704LongestRowOfCalls(t *testing.T) {
	text := "rule r0 { } "
	for i := range 63 {
		text += fmt.Sprintf("rule r%d { call r%d; } ", i+1, i)
	}
	p := wantRight(t, text+"on miss { call r63; }")
	if got := names.Laid(p, p.Miss); got != 64*2+1 {
		t.Errorf("Laid of the miss: %d", got)
	}
	wantSums(t, p)
	wantAhead(t, p)
}

// renamed puts new names in the place of those that are declared.
func renamed(rows []api.Row, name func(i int) string) []api.Row {
	var olds []string
	for _, row := range rows {
		if declares[row.Kind] != "" && !slices.Contains(olds, row.Name) {
			olds = append(olds, row.Name)
		}
	}
	news := slices.Clone(rows)
	for at, row := range rows {
		if i := slices.Index(olds, row.Name); i >= 0 {
			news[at].Name = name(i)
		}
	}
	return news
}

// wantNoNames wants a policy to be that of other names, or both to have one fault.
func wantNoNames(t *testing.T, rows []api.Row) {
	t.Helper()
	p, fault := names.Resolve(rows)
	for _, name := range []func(i int) string{
		func(i int) string { return "z" + strconv.Itoa(i) },
		func(i int) string { return "z" + strconv.Itoa(1000-i) },
		func(i int) string { return fmt.Sprintf("z%063d", i) },
	} {
		q, other := names.Resolve(renamed(rows, name))
		if other != fault || !same(withoutNames(p), withoutNames(q)) {
			t.Fatalf("%v, %v\nwith other names: %v, %v", fault, p, other, q)
		}
	}
}

func withoutNames(p api.Policy) api.Policy {
	p = copied(p)
	p.Name = ""
	for i := range p.Rows {
		p.Rows[i].Name = ""
	}
	for i := range p.Queues {
		p.Queues[i].Name = ""
	}
	p.Vars, p.Tags = make([]string, len(p.Vars)), make([]string, len(p.Tags))
	return p
}

func TestP705Texts(t *testing.T) {
	for _, inner := range []string{
		ordinary, exampleOne, "queue p ghost; rule r { drop p back; } on miss { call r; }", "queue a ghost; var a = 0 in 0 .. 1;", "rule r { call r; }", "queue a ghost; on miss { set a = 1; }",
		"queue a ghost; on hit a { } on ghost a { }", "queue a ghost; on miss { set w = 1; }", doubled(20) + "on miss { call r20; }",
	} {
		wantNoNames(t, parsed(t, "policy p { "+inner+" }"))
	}
}

// wantPlain holds a tree against the plain reading of the chapter, and answers its fault.
func wantPlain(t *testing.T, rows []api.Row) api.Errno {
	t.Helper()
	whole := newPlain(rows)
	fault := whole.fault()
	want := api.Policy{}
	if fault == (api.Fault{}) {
		want = whole.policy()
	}
	p, got := names.Resolve(rows)
	if got != fault || !same(p, want) {
		t.Fatalf("%v\n%v, %v; want %v, %v", rows, got, p, fault, want)
	}
	if fault != (api.Fault{}) {
		return fault.Err
	}
	if err := names.Check(p); err != api.OK {
		t.Fatalf("%v\nCheck: %v", rows, err)
	}
	wantLaid(t, p)
	wantSums(t, p)
	wantAhead(t, p)
	return api.OK
}

func TestChanceTrees(t *testing.T) {
	counts := map[api.Errno]int{}
	for seed := range int64(3000) {
		slips := []float64{0, 0.002, 0.01, 0.05, 0.2}[seed%5]
		m := newMaker(seed, slips)
		rows := m.tree(m.Intn(45))
		if fault := gram.Check(rows); fault != (api.Fault{}) {
			t.Fatalf("%v: no tree: %v", rows, fault)
		}
		counts[wantPlain(t, rows)]++
		wantNoNames(t, rows)
	}
	for _, err := range []api.Errno{api.OK, api.ErrTwice, api.ErrMany, api.ErrUnknown, api.ErrOther, api.ErrLarge} {
		if counts[err] < 20 {
			t.Errorf("%v was met %d times: %v", err, counts[err], counts)
		}
	}
}

// Rows of which some are changed: mostly no trees, and then gram.Check's fault.
func TestChanceChanges(t *testing.T) {
	r := rand.New(rand.NewSource(7))
	first := parsed(t, "policy p { "+ordinary+" }")
	trees := 0
	for range 15000 {
		rows := slices.Clone(first)
		for range 1 + r.Intn(2) {
			at := r.Intn(len(rows))
			switch r.Intn(5) {
			case 0:
				rows[at].Kind = r.Intn(api.NCount + 1)
			case 1, 2:
				rows[at].Name = rows[r.Intn(len(rows))].Name
			case 3:
				rows[at].N = r.Intn(3)
			case 4:
				rows[at].Kids = r.Intn(4)
			}
		}
		want := gram.Check(rows)
		if want == (api.Fault{}) {
			trees++
			wantPlain(t, rows)
			continue
		}
		if p, fault := names.Resolve(rows); fault != want || !same(p, api.Policy{}) {
			t.Fatalf("%v\n%v, %v; want %v", rows, fault, p, want)
		}
	}
	if trees < 2000 {
		t.Errorf("only %d trees", trees)
	}
}

// Whatever is handed in, each call ends.
func TestP1AnyPolicy(t *testing.T) {
	r := rand.New(rand.NewSource(701))
	odd := func() int {
		return []int{0, 1, 2, 3, -1, -2, r.Intn(20), r.Intn(100), api.MaxSum, math.MaxInt, math.MinInt, math.MinInt + 1}[r.Intn(12)]
	}
	ints := func(n int) []int {
		var list []int
		for range n {
			list = append(list, odd())
		}
		return list
	}
	for range 5000 {
		p := api.Policy{Rules: ints(r.Intn(6)), On: ints(r.Intn(3)), Miss: odd()}
		for range r.Intn(30) {
			p.Rows = append(p.Rows, api.Row{Kind: r.Intn(api.NCount+2) - 1, Name: []string{"", "a", "b", "queue"}[r.Intn(4)], End: odd(), N: odd(), Kids: odd()})
		}
		for range 3 {
			names.Laid(p, odd())
		}
		if err := names.Check(p); err != api.ErrShape {
			t.Fatalf("%v: %v", p, err)
		}
		if q, fault := names.Resolve(p.Rows); fault != gram.Check(p.Rows) || !same(q, api.Policy{}) {
			t.Fatalf("%v: %v, %v", p.Rows, fault, q)
		}
	}
}

// A policy of Resolve's of which a few numbers are changed: rules that call themselves, blocks that are none.
func TestP1NearlyRight(t *testing.T) {
	r := rand.New(rand.NewSource(702))
	p := wantRight(t, ordinary)
	for range 5000 {
		q := copied(p)
		for range 1 + r.Intn(3) {
			switch r.Intn(4) {
			case 0:
				q.Rules[r.Intn(len(q.Rules))] = r.Intn(len(q.Rows)+4) - 2
			case 1:
				q.Rows[r.Intn(len(q.Rows))].Kind = api.NCall
			case 2:
				q.Rows[r.Intn(len(q.Rows))].N = r.Intn(4) - 1
			case 3:
				q.Rows[r.Intn(len(q.Rows))].Kids = r.Intn(5) - 1
			}
		}
		for at := -1; at <= len(q.Rows); at++ {
			names.Laid(q, at)
		}
		names.Check(q)
	}
	for _, row := range []int{-1, math.MinInt, len(p.Rows), math.MaxInt} {
		names.Laid(p, row)
	}
	many := api.Policy{Rows: slices.Repeat([]api.Row{{Kind: api.NCall, Kids: 1}}, 1<<16), Rules: make([]int, 1<<16)}
	names.Laid(many, 0)
	names.Check(many)
}

// spare is a list with spare room behind it, in which something stands.
func spare[T any](list []T, last T) []T {
	return append(slices.Clone(list), last, last)[:len(list)]
}

func TestP2NothingIsShared(t *testing.T) {
	mark := api.Row{Kind: api.NPass, Name: "mark"}
	rows := spare(parsed(t, "policy p { "+ordinary+" }"), mark)
	ahead := slices.Clone(rows[:cap(rows)])
	p, _ := names.Resolve(rows)
	want := copied(p)
	if !slices.Equal(rows[:cap(rows)], ahead) {
		t.Error("Resolve changed its rows")
	}
	for at := range rows[:cap(rows)] {
		rows[:cap(rows)][at] = api.Row{}
	}
	if !same(p, want) {
		t.Error("the policy shares its rows")
	}
	rows = slices.Clone(ahead[:len(rows)])
	for i := range p.Rows[:cap(p.Rows)] {
		p.Rows[:cap(p.Rows)][i] = api.Row{}
	}
	for i := range p.Rules[:cap(p.Rules)] {
		p.Rules[:cap(p.Rules)][i] = -9
	}
	if !slices.Equal(rows, ahead[:len(rows)]) || !slices.Equal(p.On, want.On) || !slices.Equal(p.Vars, want.Vars) || !slices.Equal(p.Tags, want.Tags) {
		t.Error("lists of an answer share memory")
	}
	for i := range p.Vars[:cap(p.Vars)] {
		p.Vars[:cap(p.Vars)][i] = "other"
	}
	if !slices.Equal(p.Tags, want.Tags) {
		t.Error("vars and tags share memory")
	}
	if q, _ := names.Resolve(rows); !same(q, want) {
		t.Error("Resolve keeps what it answered")
	}
}

func TestP2PoliciesStay(t *testing.T) {
	p := wantRight(t, ordinary)
	p.Rows, p.Rules, p.On = spare(p.Rows, api.Row{Kind: api.NPass}), spare(p.Rules, 77), spare(p.On, 78)
	p.Queues, p.Vars, p.Tags = spare(p.Queues, api.Queue{Name: "s"}), spare(p.Vars, "s"), spare(p.Tags, "s")
	want := copied(p)
	for at := range p.Rows {
		names.Laid(p, at)
	}
	if names.Check(p) != api.OK || !same(p, want) {
		t.Error("Check or Laid changed the policy")
	}
	n := func(list []int) []int { return list[:cap(list)][len(list) : len(list)+2] }
	if p.Rows[:cap(p.Rows)][len(p.Rows)].Kind != api.NPass || !slices.Equal(n(p.Rules), []int{77, 77}) || !slices.Equal(n(p.On), []int{78, 78}) {
		t.Error("Check or Laid changed spare room")
	}
	if p.Vars[:cap(p.Vars)][len(p.Vars)] != "s" || p.Tags[:cap(p.Tags)][len(p.Tags)] != "s" || p.Queues[:cap(p.Queues)][len(p.Queues)].Name != "s" {
		t.Error("Check or Laid changed spare room")
	}
}

func TestP3SameAnswers(t *testing.T) {
	for _, inner := range []string{ordinary, exampleOne, doubled(30), "rule r { call r; }"} {
		rows := parsed(t, "policy p { "+inner+" }")
		first, fault := names.Resolve(rows)
		for range 20 {
			if p, f := names.Resolve(rows); f != fault || !same(p, first) {
				t.Fatalf("%.100s: %v, %v; it was %v, %v", inner, f, p, fault, first)
			}
		}
	}
}

// As many rows as a text can have and more, each below the one ahead, are gone through in a moment.
func TestDeepTrees(t *testing.T) {
	const n = 1 << 17
	rows := []api.Row{{Kind: api.NPolicy, Name: "p", Kids: 3}, {Kind: api.NVar, Name: "v", Kids: 3}, {Kind: api.NNum}, {Kind: api.NNum}, {Kind: api.NNum}}
	rows = append(rows, api.Row{Kind: api.NRule, Name: "r", Kids: 1}, api.Row{Kind: api.NBlock, Kids: 1})
	for range n {
		rows = append(rows, api.Row{Kind: api.NIf, Kids: 3}, api.Row{Kind: api.NVarOf, Name: "v"}, api.Row{Kind: api.NBlock})
	}
	rows = append(rows, api.Row{Kind: api.NBlock}, api.Row{Kind: api.NMiss, Kids: 1}, api.Row{Kind: api.NBlock})
	p, fault := names.Resolve(rows)
	if fault != (api.Fault{}) || names.Laid(p, 6) != 3*n+2 || names.Laid(p, 0) != len(rows) || names.Check(p) != api.OK {
		t.Errorf("%v, %d rows", fault, names.Laid(p, 6))
	}
	rows[len(rows)-1].Kids = 1
	rows = append(rows, api.Row{Kind: api.NCall, Name: "r"})
	if _, fault := names.Resolve(rows); fault != (api.Fault{Err: api.ErrLarge, At: len(rows) - 3}) {
		t.Errorf("with a call: %v", fault)
	}
	rows[len(rows)-1].Name = "v"
	if _, fault := names.Resolve(rows); fault != (api.Fault{Err: api.ErrOther, At: len(rows) - 1}) {
		t.Errorf("with a call of a var: %v", fault)
	}
}
