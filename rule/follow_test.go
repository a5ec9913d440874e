package rule_test

import (
	"fmt"
	"math"
	"math/rand"
	"runtime"
	"slices"
	"strings"
	"testing"
	"time"

	"winnow/api"
	"winnow/deno"
	"winnow/names"
	"winnow/rule"
	"winnow/typed"
)

func sameAnswer(x, y api.Answer) bool {
	return x.Hit == y.Hit && x.Trap == y.Trap && slices.Equal(x.Evicted, y.Evicted)
}

func sameEntry(x, y api.Entry) bool { return x.Key == y.Key && slices.Equal(x.Tags, y.Tags) }

func sameState(x, y api.State) bool {
	return slices.Equal(x.Vars, y.Vars) && slices.EqualFunc(x.Queues, y.Queues, func(a, b []api.Entry) bool { return slices.EqualFunc(a, b, sameEntry) })
}

// told is all that an operation tells, and what it leaves behind.
type told struct {
	answer api.Answer
	was    int
	state  api.State
	stats  api.Stats
}

func sameTold(x, y told) bool {
	return sameAnswer(x.answer, y.answer) && x.was == y.was && sameState(x.state, y.state) && x.stats == y.stats
}

// machine is one of this package, or the meaning's.
type machine interface {
	Access(key uint64) api.Answer
	Remove(key uint64) int
	State() api.State
	Stats() api.Stats
}

func play(m machine, op api.Op) told {
	var out told
	if op.Remove {
		out.was = m.Remove(op.Key)
	} else {
		out.answer = m.Access(op.Key)
	}
	out.state, out.stats = m.State(), m.Stats()
	return out
}

func playPlain(x *plain, op api.Op) told {
	var out told
	if op.Remove {
		out.was = x.remove(op.Key)
	} else {
		out.answer = x.access(op.Key)
	}
	out.state, out.stats = apart(x.state), x.stats
	return out
}

// operations are Accesses and some Removes, by chance.
func operations(r *rand.Rand, n int) []api.Op {
	list := make([]api.Op, n)
	keys := 2 + r.Intn(12)
	for i := range list {
		list[i] = api.Op{Key: uint64(r.Intn(keys)), Remove: r.Intn(12) == 0}
	}
	return list
}

// plotted is a plan by chance, under capacities.
func plotted(seed int64) (api.Plan, api.Caps, *plotter) {
	r := newPlotter(seed, []float64{1, 0.95, 0.7, 0.98}[seed%4])
	return r.plan(), r.c, r
}

// Plans by chance, against the plain reading of the chapter.
func TestChancePlans(t *testing.T) {
	traps := map[api.Trap]int{}
	kinds := map[int]bool{}
	hits, evictions, removals := 0, 0, 0
	for seed := range int64(4000) {
		p, c, r := plotted(seed)
		if !isRight(p) || rule.Check(p) != api.OK {
			t.Fatalf("%v: %v", p, rule.Check(p))
		}
		for _, rows := range append([][]api.Act{p.Miss}, p.On...) {
			for _, a := range rows {
				kinds[a.Kind] = true
			}
		}
		m, x := open(t, p, c), newPlain(p, c)
		for n, op := range operations(r.Rand, 50) {
			got, want := play(m, op), playPlain(x, op)
			if !sameTold(got, want) {
				t.Fatalf("%v\n%v, operation %d, %v:\n%v; want\n%v", p, c, n, op, got, want)
			}
			traps[got.answer.Trap]++
		}
		hits, evictions, removals = hits+x.stats.Hits, evictions+x.stats.Evictions, removals+x.stats.Removals
	}
	if traps[api.TNone] < 100000 || traps[api.TFull] < 2000 || traps[api.TEmpty] < 2000 || traps[api.TWhere] < 2000 || hits < 20000 || evictions < 10000 || removals < 3000 || len(kinds) != api.RCount-1 {
		t.Errorf("what was met: %v, %d hits, %d evictions, %d removals, %d kinds", traps, hits, evictions, removals, len(kinds))
	}
}

func oddNumber(r *rand.Rand) int {
	return []int{0, 1, 2, 3, -1, r.Intn(6), r.Intn(40), math.MaxInt, math.MinInt, api.MaxNum + 1}[r.Intn(10)]
}

// spoilRows changes something of rows.
func spoilRows(r *rand.Rand, rows []api.Act) []api.Act {
	rows = slices.Clone(rows)
	if len(rows) == 0 {
		return rows
	}
	at, other := r.Intn(len(rows)), r.Intn(len(rows))
	switch r.Intn(9) {
	case 0:
		rows[at].Kind = r.Intn(api.RCount+2) - 1
	case 1:
		rows[at].A = oddNumber(r)
	case 2:
		*fields(&rows[at])[r.Intn(4)] = oddNumber(r)
	case 3:
		rows[at].Kids = []int{rows[at].Kids + 1, rows[at].Kids - 1, oddNumber(r)}[r.Intn(3)]
	case 4:
		return slices.Delete(rows, at, at+1)
	case 5:
		return slices.Insert(rows, at, rows[other])
	case 6:
		rows[at], rows[other] = rows[other], rows[at]
	case 7:
		rows[at].B, rows[at].D = 1-rows[at].B, 1-rows[at].D
	case 8:
		rows[at].A ^= 1
	}
	return rows
}

func spoilLists(r *rand.Rand, p *api.Plan) {
	switch r.Intn(6) {
	case 0:
		p.Ghost = slices.Clone(p.Ghost)
		p.Ghost[r.Intn(len(p.Ghost))] = r.Intn(2) == 0
	case 1:
		p.Ghost = append(slices.Clone(p.Ghost), true)
	case 2:
		p.On = p.On[:r.Intn(len(p.On)+1)]
	case 3:
		p.Vars = append(slices.Clone(p.Vars), api.Var{Init: oddNumber(r), Lo: oddNumber(r), Hi: oddNumber(r)})
	case 4:
		p.Vars = p.Vars[:len(p.Vars)/2]
	case 5:
		p.Tags = append(slices.Clone(p.Tags), oddNumber(r))
	}
}

// Whatever is handed in, Check and New end, and answer what is asked for.
func TestP1AnyPlan(t *testing.T) {
	right := 0
	for seed := range int64(10000) {
		p, c, r := plotted(seed % 500)
		r.Seed(seed)
		p.On = slices.Clone(p.On)
		for range 1 + r.Intn(2) {
			switch q := r.Intn(len(p.On)*2 + 2); {
			case q < len(p.On):
				p.On[q] = spoilRows(r.Rand, p.On[q])
			case q < len(p.On)*2+1:
				p.Miss = spoilRows(r.Rand, p.Miss)
			default:
				spoilLists(r.Rand, &p)
			}
		}
		want := api.ErrPlan
		if isRight(p) {
			want = api.OK
			right++
		}
		if got := rule.Check(p); got != want {
			t.Fatalf("%v: %v; want %v", p, got, want)
		}
		if want == api.OK && len(p.Ghost) != len(c.Queues) {
			want = api.ErrCaps
		}
		m, err := rule.New(p, c)
		if want == api.OK && err == api.ErrCaps {
			// A queue has become a resident one, and is too large for that.
			continue
		}
		if err != want || (m == nil) != (err != api.OK) {
			t.Fatalf("%v: %v; want %v", p, err, want)
		}
		if m == nil {
			continue
		}
		for _, op := range operations(r.Rand, 5) {
			play(m, op)
		}
	}
	if right < 1500 || right > 8000 {
		t.Errorf("%d were right", right)
	}
}

// made is a policy by chance, with its types, under capacities.
type made struct {
	p    api.Policy
	u    api.Typed
	c    api.Caps
	text string
}

// chance is one of the policies that the seed gives.
func chance(t *testing.T, seed int64) (made, *maker) {
	t.Helper()
	m := newMaker(seed, []float64{1, 0.9, 0.6, 0.98}[seed%4])
	p, text := m.policy()
	c := m.caps(p.Queues)
	u, fault := typed.Check(p, c)
	if fault != (api.Fault{}) {
		t.Fatalf("%s\n%v: %v", text, c, fault)
	}
	return made{p, u, c, text}, m
}

// wantLike wants a machine of what Lower tells, and one of it at once, to answer as the meaning does; and the plan to be right, and that of the plain reading.
func wantLike(t *testing.T, d made, list []api.Op) (traps map[api.Trap]int) {
	t.Helper()
	p, err := rule.Lower(d.p, d.u, d.c)
	if err != api.OK || rule.Check(p) != api.OK || !isRight(p) {
		t.Fatalf("%s\n%v: %v, %v", d.text, d.c, err, rule.Check(p))
	}
	if want := lowered(d.p, d.u, d.c); !rule.Same(p, want) {
		t.Fatalf("%s\n%v: %v; want %v", d.text, d.c, p, want)
	}
	meaning, err := deno.New(d.p, d.u, d.c)
	if err != api.OK {
		t.Fatalf("%s\n%v", d.text, err)
	}
	traps = map[api.Trap]int{}
	machines := []*rule.Machine{open(t, p, d.c), open(t, shortened(p), d.c)}
	for n, op := range list {
		want := play(meaning, op)
		for i, m := range machines {
			if got := play(m, op); !sameTold(got, want) {
				t.Fatalf("%s\n%v, operation %d, %v, machine %d:\n%v; want\n%v", d.text, d.c, n, op, i, got, want)
			}
		}
		traps[want.answer.Trap]++
	}
	return traps
}

func TestP1206(t *testing.T) {
	traps := map[api.Trap]int{}
	for seed := range int64(1000) {
		d, r := chance(t, seed)
		for trap, n := range wantLike(t, d, operations(r.Rand, 50)) {
			traps[trap] += n
		}
	}
	if traps[api.TNone] < 25000 || traps[api.TFull] < 700 || traps[api.TEmpty] < 700 || traps[api.TWhere] < 700 {
		t.Errorf("what was met: %v", traps)
	}
}

// What Lower tells is right, however much a policy asks for.
func TestP1206Great(t *testing.T) {
	within(t, "evicts", func() {
		p := lower(t, things+"on miss { "+strings.Repeat("evict a back; ", 16000)+"} }", usual())
		if len(p.Miss) != 1+3*16000 || rule.Check(p) != api.OK {
			t.Errorf("%d rows, %v", len(p.Miss), rule.Check(p))
		}
	})
	within(t, "ifs", func() {
		p := lower(t, things+"on miss { "+strings.Repeat("if full(a) { } else ", 5460)+"{ } } }", usual())
		if len(p.Miss) != 1+5460*6 || rule.Check(p) != api.OK {
			t.Errorf("%d rows, %v", len(p.Miss), rule.Check(p))
		}
	})
	// As many operands as a text comes to.
	text, n := "v", 0
	for n < 60 {
		text = "v - w / max(t(x), " + text + ")"
		n++
	}
	p := lower(t, things+"on miss { if v < "+text+" { } } }", usual())
	x, _ := grow(p.Miss)
	if most := wants(x.kids[0].kids[0]); rule.Check(p) != api.OK || most != 1+3*60+1 {
		t.Errorf("%v, %d operands", rule.Check(p), most)
	}
	bools := "empty(a)"
	for range 60 {
		bools = "true == (" + bools + ")"
	}
	if p := lower(t, things+"on miss { if "+bools+" { } } }", usual()); rule.Check(p) != api.OK {
		t.Errorf("%v", rule.Check(p))
	}
}

// residents are the keys of a state that are resident, and of all those there how often.
func residents(p api.Plan, s api.State) (list []uint64, often map[uint64]int) {
	often = map[uint64]int{}
	for q, entries := range s.Queues {
		for _, e := range entries {
			often[e.Key]++
			if !p.Ghost[q] {
				list = append(list, e.Key)
			}
		}
	}
	return list, often
}

// wantMayBe wants a state to be one that may be.
func wantMayBe(t *testing.T, p api.Plan, c api.Caps, s api.State) {
	t.Helper()
	list, often := residents(p, s)
	right := len(list) <= c.Size && len(s.Queues) == len(c.Queues) && len(s.Vars) == len(p.Vars)
	for q, entries := range s.Queues {
		right = right && len(entries) <= c.Queues[q]
		for _, e := range entries {
			right = right && often[e.Key] == 1 && len(e.Tags) == len(p.Tags)
			for i, n := range e.Tags {
				right = right && 0 <= n && n <= p.Tags[i]
			}
		}
	}
	for i, n := range s.Vars {
		right = right && p.Vars[i].Lo <= n && n <= p.Vars[i].Hi
	}
	if !right {
		t.Fatalf("%v\n%v: %v", p, c, s)
	}
}

func TestP1207(t *testing.T) {
	came, went, back := 0, 0, 0
	for seed := range int64(1500) {
		p, c, r := plotted(seed + 10000)
		m := open(t, p, c)
		wantMayBe(t, p, c, m.State())
		for _, op := range operations(r.Rand, 50) {
			was, _ := residents(p, m.State())
			before := m.State()
			stats := m.Stats()
			out := play(m, op)
			wantMayBe(t, p, c, out.state)
			now, _ := residents(p, out.state)
			if out.answer.Trap != api.TNone && (!sameState(out.state, before) || out.stats != stats || !sameAnswer(out.answer, api.Answer{Trap: out.answer.Trap})) {
				t.Fatalf("%v\n%v: %v; it was %v, %v", p, op, out, before, stats)
			}
			for _, key := range now {
				if !slices.Contains(was, key) && (key != op.Key || op.Remove) {
					t.Fatalf("%v\n%v: %d became resident", p, op, key)
				}
				if slices.Contains(out.answer.Evicted, key) {
					if back++; key != op.Key {
						t.Fatalf("%v\n%v: %d was told, and is resident", p, op, key)
					}
				}
			}
			for _, key := range was {
				if !slices.Contains(now, key) {
					went++
					if !slices.Contains(out.answer.Evicted, key) && !(op.Remove && key == op.Key) {
						t.Fatalf("%v\n%v: %d is resident no more", p, op, key)
					}
				}
			}
			came += len(now)
		}
	}
	if came < 30000 || went < 3000 || back < 20 {
		t.Errorf("%d were resident, %d went, %d came back", came, went, back)
	}
}

// Keys are names alone.
func TestAnyKeys(t *testing.T) {
	edges := []uint64{math.MaxUint64, 0, 1 << 63, 1<<63 - 1, 1, 1 << 32, math.MaxUint64 - 1, 2, 1<<32 - 1, 3, 4, 5, 6, 7}
	for seed := range int64(300) {
		p, c, r := plotted(seed + 20000)
		m, other := open(t, p, c), open(t, p, c)
		for _, op := range operations(r.Rand, 40) {
			want := play(m, op)
			for i, key := range want.answer.Evicted {
				want.answer.Evicted[i] = edges[key]
			}
			for _, list := range want.state.Queues {
				for i := range list {
					list[i].Key = edges[list[i].Key]
				}
			}
			op.Key = edges[op.Key]
			if got := play(other, op); !sameTold(got, want) {
				t.Fatalf("%v\n%v: %v; want %v", p, op, got, want)
			}
		}
	}
}

// wantTwin wants a twin to be like its machine, and the two not to see one another. It answers another twin.
func wantTwin(t *testing.T, m *rule.Machine, r *rand.Rand) *rule.Machine {
	t.Helper()
	other, third := m.Twin(), m.Twin()
	state, stats := m.State(), m.Stats()
	if !sameState(other.State(), state) || other.Stats() != stats {
		t.Fatalf("a twin of %v, %v has %v, %v", state, stats, other.State(), other.Stats())
	}
	for _, op := range operations(r, 10) {
		play(other, op)
	}
	for _, same := range []*rule.Machine{m, third} {
		if !sameState(same.State(), state) || same.Stats() != stats {
			t.Fatalf("it was %v, %v, and is %v, %v behind what its twin did", state, stats, same.State(), same.Stats())
		}
	}
	return third
}

func TestP1205Twin(t *testing.T) {
	for seed := range int64(400) {
		p, c, r := plotted(seed + 30000)
		m, asked := open(t, p, c), open(t, p, c)
		other := m.Twin()
		for _, op := range operations(r.Rand, 50) {
			// What is asked for changes nothing.
			asked.State()
			asked.Stats()
			asked.Twin().Access(op.Key)
			if n := asked.Remove(1 << 50); n != api.RNone {
				t.Fatalf("Remove of what is nowhere: %d", n)
			}
			want := play(m, op)
			for i, like := range []*rule.Machine{asked, other} {
				if got := play(like, op); !sameTold(got, want) {
					t.Fatalf("%v\n%v, %d: %v; want %v", p, op, i, got, want)
				}
			}
			if r.Intn(5) == 0 {
				other = wantTwin(t, m, r.Rand)
			}
		}
	}
}

// errorOf is P1203's.
func errorOf(d made) api.Errno {
	if err := names.Check(d.p); err != api.OK {
		return err
	}
	if _, fault := typed.Types(d.p); fault.Err != api.OK {
		return fault.Err
	}
	if fault := typed.Fit(d.p, d.c); fault.Err != api.OK {
		return api.ErrCaps
	}
	right := len(d.u.Vars) == len(d.p.Vars) && len(d.u.Tags) == len(d.p.Tags) && len(d.u.Rounds) == len(d.p.Rows)
	for _, v := range d.u.Vars {
		right = right && v.Lo <= v.Init && v.Init <= v.Hi && v.Lo >= -api.MaxNum && v.Hi <= api.MaxNum
	}
	for _, n := range d.u.Tags {
		right = right && 1 <= n && n <= 255
	}
	for _, n := range d.u.Rounds {
		right = right && 0 <= n && n <= 4194304
	}
	if !right {
		return api.ErrRange
	}
	return api.OK
}

// Whatever is handed in, Lower ends, and answers the error that is asked for, or a right plan.
func TestP1AnyPolicy(t *testing.T) {
	r := rand.New(rand.NewSource(1201))
	met := map[api.Errno]int{}
	for seed := range int64(1800) {
		d, _ := chance(t, seed%80)
		d.p.Rows, d.p.On, d.c.Queues = slices.Clone(d.p.Rows), slices.Clone(d.p.On), slices.Clone(d.c.Queues)
		for range 1 + r.Intn(2) {
			at := r.Intn(len(d.p.Rows))
			switch r.Intn(14) {
			case 0:
				d.p.Rows[at].Kind = r.Intn(api.NCount+2) - 1
			case 1:
				d.p.Rows[at].N = oddNumber(r)
			case 2:
				d.p.Rows[at].Kids = oddNumber(r)
			case 3:
				d.p.Rows = d.p.Rows[:at+1]
			case 4, 5:
				d.u.Rounds[r.Intn(len(d.u.Rounds))] = oddNumber(r)
			case 6:
				d.p.On[r.Intn(len(d.p.On))] = oddNumber(r)
			case 7:
				d.c.Size = oddNumber(r)
			case 8:
				d.c.Queues[r.Intn(len(d.c.Queues))] = oddNumber(r)
			case 9:
				d.p.Miss = oddNumber(r)
			case 10:
				d.u.Vars = append(d.u.Vars, api.Var{Init: oddNumber(r)})
			case 11:
				d.p.Rows[at].End = oddNumber(r)
			case 12:
				d.u.Vars = []api.Var{{Init: oddNumber(r), Lo: oddNumber(r), Hi: oddNumber(r)}}
			case 13:
				// A number in the place of a bool, or the other way round.
				d.p.Rows[at].Kind = map[int]int{api.NTrue: api.NTotal, api.NTotal: api.NFalse, api.NEmpty: api.NLen, api.NLen: api.NFull, api.NAdd: api.NEq, api.NAnd: api.NMul, api.NNum: api.NNum}[d.p.Rows[at].Kind]
			}
		}
		p, err := rule.Lower(d.p, d.u, d.c)
		if want := errorOf(d); err != want {
			t.Fatalf("%v, %v: %v; want %v", d.p, d.c, err, want)
		}
		met[err]++
		if err != api.OK && !rule.Same(p, api.Plan{}) || rule.Check(p) != api.OK {
			t.Fatalf("%v, %v: %v, %v", d.p, d.c, err, p)
		}
		if err == api.OK && !rule.Same(p, lowered(d.p, d.u, d.c)) {
			t.Fatalf("%v, %v: %v", d.p, d.c, p)
		}
	}
	if met[api.OK] < 100 || met[api.ErrShape] < 200 || met[api.ErrCaps] < 60 || met[api.ErrRange] < 60 || met[api.ErrType] < 10 {
		t.Errorf("%v were met", met)
	}
}

// within wants something to be done in a moment.
func within(t *testing.T, what string, do func()) {
	t.Helper()
	start := time.Now()
	do()
	if took := time.Since(start); took > 10*time.Second {
		t.Errorf("%s took %v", what, took)
	}
}

// As many rows as a plan may have, each below the one ahead.
func TestDeepPlans(t *testing.T) {
	const most = 131072
	// ring is so many of the same rows, each below the one ahead.
	ring := func(n int, rows ...api.Act) []api.Act { return slices.Repeat(rows, n) }
	block, set := api.Act{Kind: api.RBlock, Kids: 1}, acts("set 1(num 8)")
	for what, c := range map[string]struct {
		rows []api.Act
		want string
	}{
		"blocks":     {slices.Concat(ring(most-2, block), set), "miss: 0 8"},
		"nots":       {slices.Concat(acts("block(if)")[:1], []api.Act{{Kind: api.RIf, Kids: 3}}, ring(most-10, api.Act{Kind: api.RNot, Kids: 1}), acts("bool 1"), acts("block(set 1(num 8))"), acts("block(set 1(num 9))")), "miss: 0 8"},
		"negatives":  {slices.Concat([]api.Act{block, {Kind: api.RSet, A: 1, Kids: 1}}, ring(most-3, api.Act{Kind: api.RNeg, Kids: 1}), acts("num 8")), "miss: 0 -8"},
		"ifs":        {slices.Concat(ring(most/3-1, block, api.Act{Kind: api.RIf, Kids: 2}, api.Act{Kind: api.RBool, A: 1}), []api.Act{block}, set), "miss: 0 8"},
		"elses":      {slices.Concat(ring(most/4-1, block, api.Act{Kind: api.RIf, Kids: 3}, api.Act{Kind: api.RBool}, api.Act{Kind: api.RBlock}), []api.Act{block}, set), "miss: 0 8"},
		"loops":      {slices.Concat(ring(most/3-1, block, api.Act{Kind: api.RLoop, A: 1, Kids: 2}, api.Act{Kind: api.RBool, A: 1}), []api.Act{block}, set), "miss: 0 8"},
		"sums":       {slices.Concat([]api.Act{block, {Kind: api.RSet, A: 1, Kids: 1}}, ring(65000, api.Act{Kind: api.RAdd, Kids: 2}), ring(65001, acts("num 1")...)), "miss: 0 65001"},
		"ands":       {slices.Concat([]api.Act{block, {Kind: api.RIf, Kids: 2}}, ring(60000, api.Act{Kind: api.RAnd, Kids: 2}, api.Act{Kind: api.RBool, A: 1}), acts("bool 1"), acts("block(set 1(num 8))")), "miss: 0 8"},
		"a trap":     {slices.Concat([]api.Act{{Kind: api.RBlock, Kids: 3}}, set, ring(most-7, block), acts("evict 0 0"), set), "empty: 0 5"},
		"side by it": {slices.Concat([]api.Act{{Kind: api.RBlock, Kids: most - 1}}, ring(most-1, acts("block")...)), "miss: 0 5"},
	} {
		within(t, what, func() {
			p := plan(c.rows)
			if rule.Check(p) != api.OK || !rule.Same(rule.Twin(p), p) {
				t.Fatalf("%s: %v", what, rule.Check(p))
			}
			m := open(t, p, usual())
			if got := tellAnswer(m.Twin().Access(1)); got != strings.Split(c.want, ":")[0] {
				t.Errorf("%s: a twin: %s", what, got)
			}
			if got := tellAnswer(m.Access(1)) + ": " + strings.Trim(fmt.Sprint(m.State().Vars), "[]"); got != c.want {
				t.Errorf("%s: %s; want %s", what, got, c.want)
			}
		})
	}
	within(t, "far too many", func() {
		wantRight(t, "nots", plan(ring(5000000, api.Act{Kind: api.RNot, Kids: 1})), false)
		wantRight(t, "kids", plan(ring(most, api.Act{Kind: api.RBlock, Kids: math.MaxInt})), false)
	})
}

// As many rows as an event of a policy may have, each below the one ahead.
func TestDeepTrees(t *testing.T) {
	wantSet := func(what, doings string, rows, want int) {
		within(t, what, func() {
			p := lower(t, things+"rule r { pass; } on miss { "+doings+" } }", usual())
			if len(p.Miss) != rows {
				t.Errorf("%s: %d rows; want %d", what, len(p.Miss), rows)
			}
			m := open(t, p, usual())
			if a := m.Access(1); a.Trap != api.TNone || m.State().Vars[1] != want {
				t.Errorf("%s: %v, %v", what, a, m.State())
			}
		})
	}
	wantSet("a sum", "set w = "+strings.Repeat("1 + ", 8000)+"1;", 16003, 8001)
	wantSet("an else-if", strings.Repeat("if full(g) { drop g back; } else ", 4000)+"{ set w = 9; }", 1+4000*8+2, 9)
	wantSet("doings", strings.Repeat("pass; ", 16000), 1, 5)
	wantSet("a loop's first expression", "loop "+strings.Repeat("0 + ", 8000)+"3 while true { set w = w + 1; }", 8, 8)
	wantSet("loops in loops", strings.Repeat("loop 1 + 0 while true { ", 60)+"set w = 2;"+strings.Repeat(" }", 60), 3+3*60, 2)
	text := things + "rule r0 { set w = w + 1; } "
	for i := range 10 {
		text += fmt.Sprintf("rule r%d { call r%d; call r%d; } ", i+1, i, i)
	}
	within(t, "calls", func() {
		p := lower(t, text+"on miss { call r10; } }", usual())
		m := open(t, p, usual())
		if m.Access(1); m.State().Vars[1] != 5+1024 || len(p.Miss) != 1+1024*5+1023 {
			t.Errorf("%v, %d rows", m.State().Vars, len(p.Miss))
		}
	})
	// What is called by no event may be as much as it likes.
	for i := 10; i < api.MaxRules-1; i++ {
		text += fmt.Sprintf("rule r%d { call r%d; call r%d; } ", i+1, i, i)
	}
	within(t, "calls that nobody calls", func() {
		if p := lower(t, text+"on miss { call r1; } }", usual()); len(p.Miss) != 1+1+2*5 {
			t.Errorf("%s", tell(p.Miss))
		}
	})
	within(t, "a sum of a rule that nobody calls", func() {
		if p := lower(t, things+"rule r { set w = "+strings.Repeat("1 + ", 32000)+"1; } on miss { pass; } }", usual()); len(p.Miss) != 1 {
			t.Errorf("%s", tell(p.Miss))
		}
	})
}

// As many rounds as a loop may have; what they did is undone all the same.
func TestLongLoops(t *testing.T) {
	const loop = "loop 4194304(bool 1, block(set 1(add(var 1, num 1)), insert 0 0, mark 0(x, num 3), take 0 1, tell, loose))"
	within(t, "a loop", func() {
		m := open(t, plan(acts("block("+loop+")")), usual())
		if a := m.Access(7); a.Trap != api.TNone || len(a.Evicted) != api.MaxLoop || slices.Max(a.Evicted) != 7 || slices.Min(a.Evicted) != 7 {
			t.Errorf("%v, %d evicted", a.Trap, len(a.Evicted))
		}
		if m.State().Vars[1] != 5+api.MaxLoop || m.Stats() != (api.Stats{Misses: 1, Evictions: api.MaxLoop}) {
			t.Errorf("%v, %v", m.State(), m.Stats())
		}
	})
	within(t, "a loop, undone", func() {
		m := open(t, plan(acts("block("+loop+", forget)")), usual())
		if a := m.Access(7); !sameAnswer(a, api.Answer{Trap: api.TWhere}) || tellState(m.State()) != "/ / / ; 0 5" || m.Stats() != (api.Stats{}) {
			t.Errorf("%v, %v", a, m.State())
		}
	})
}

// A machine holds no more than its state, however long it runs.
func TestHoldsLittle(t *testing.T) {
	p := api.Plan{Ghost: []bool{false, true}, On: make([][]api.Act, 2)}
	small := api.Caps{Size: 2, Queues: []int{2, 2}}
	for _, text := range []string{
		"block(if(eq(len 0, num 2), block(if(eq(len 1, num 2), block(take 1 1, loose)), take 0 1, tell, give 1 0)), insert 0 0)",
		"block(insert 0 0, evict 0 1, insert 1 0, evict 0 1)",
		"block(insert 0 0)",
	} {
		p.Miss = acts(text)
		m := open(t, p, small)
		before := heap()
		for key := range uint64(200000) {
			if m.Access(key); text == "block(insert 0 0)" {
				m.Remove(key)
			}
		}
		if after := heap(); after > before+1<<20 {
			t.Errorf("%s: %d bytes more", text, after-before)
		}
		runtime.KeepAlive(m)
	}
	// Nor what it answered.
	p.Miss = acts("block(loop 1000000(bool 1, block(insert 0 0, evict 0 1)))")
	m := open(t, p, small)
	before := heap()
	m.Access(7)
	if after := heap(); after > before+1<<20 {
		t.Errorf("%d bytes more", after-before)
	}
	runtime.KeepAlive(m)
}

// heap is how many bytes are in use.
func heap() uint64 {
	var s runtime.MemStats
	runtime.GC()
	runtime.ReadMemStats(&s)
	return s.HeapAlloc
}

// The greatest capacities.
func TestGreatCapacities(t *testing.T) {
	const most = api.MaxCap
	within(t, "an lru", func() {
		m := openText(t, published[1], api.Caps{Size: most, Queues: []int{most}})
		for key := range uint64(most) {
			m.Access(key)
		}
		for n := range uint64(most / 4) {
			if a := m.Access((n*7919 + 1) % most); !a.Hit {
				t.Fatalf("%d: %v", n, a)
			}
		}
		if a := m.Access(most); !sameAnswer(a, api.Answer{Evicted: []uint64{0}}) {
			t.Errorf("%v", a)
		}
		if n := m.Remove(7919 * 2); n != api.RResident || len(m.State().Queues[0]) != most-1 || m.Stats() != (api.Stats{Hits: most / 4, Misses: most + 1, Evictions: 1, Removals: 1}) {
			t.Errorf("%d, %v", n, m.Stats())
		}
	})
	// A hand that goes round once; and what it did undone.
	for inner, want := range map[string]api.Answer{"evict q back;": {Evicted: []uint64{0}}, "evict q back; forget;": {Trap: api.TWhere}} {
		within(t, "a clock", func() {
			m := openText(t, strings.Replace(published[2], "evict q back;", inner, 1), api.Caps{Size: most / 4, Queues: []int{most / 4}})
			for key := range uint64(most / 4) {
				m.Access(key)
				m.Access(key)
			}
			before := m.State()
			if a := m.Access(most); !sameAnswer(a, want) || want.Trap != api.TNone && !sameState(m.State(), before) {
				t.Errorf("%s: %v", inner, a)
			}
		})
	}
}
