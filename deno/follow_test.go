package deno_test

import (
	"fmt"
	"math"
	"math/rand"
	"runtime"
	"slices"
	"strings"
	"testing"
	"time"

	"winnow/api"
	"winnow/cost"
	"winnow/deno"
	"winnow/gram"
	"winnow/names"
	"winnow/room"
	"winnow/typed"
)

func sameAnswer(x, y api.Answer) bool {
	return x.Hit == y.Hit && x.Trap == y.Trap && slices.Equal(x.Evicted, y.Evicted)
}

func samePoint(x, y api.Point) bool {
	return x.Row == y.Row && x.Total == y.Total && x.Place == y.Place && slices.Equal(x.Lens, y.Lens) && slices.Equal(x.Vars, y.Vars)
}

func samePoints(x, y []api.Point) bool { return slices.EqualFunc(x, y, samePoint) }

func sameEntry(x, y api.Entry) bool { return x.Key == y.Key && slices.Equal(x.Tags, y.Tags) }

func sameState(x, y api.State) bool {
	return slices.Equal(x.Vars, y.Vars) && slices.EqualFunc(x.Queues, y.Queues, func(a, b []api.Entry) bool { return slices.EqualFunc(a, b, sameEntry) })
}

// made is a machine of a policy by chance, and what it is made of.
type made struct {
	p    api.Policy
	u    api.Typed
	c    api.Caps
	text string
}

func (d made) machine(t *testing.T) *deno.Machine {
	t.Helper()
	m, err := deno.New(d.p, d.u, d.c)
	if err != api.OK || m == nil {
		t.Fatalf("%s\n%v: %v", d.text, d.c, err)
	}
	return m
}

// chance is one of the policies that the seed gives.
func chance(t *testing.T, seed int64) (made, *maker) {
	t.Helper()
	m := newMaker(seed, []float64{1, 0.9, 0.6, 0.98}[seed%4])
	p, text := m.policy()
	c := m.caps(p.Queues)
	u, fault := typed.Check(p, c)
	if fault != (api.Fault{}) {
		t.Fatalf("%s\n%v: %v", text, c, fault)
	}
	return made{p, u, c, text}, m
}

// operations are Accesses and some Removes, by chance.
func operations(r *rand.Rand, n int) []api.Op {
	list := make([]api.Op, n)
	keys := 2 + r.Intn(12)
	for i := range list {
		list[i] = api.Op{Key: uint64(r.Intn(keys)), Remove: r.Intn(12) == 0}
	}
	return list
}

// told is all that an operation tells, and what it leaves behind.
type told struct {
	answer api.Answer
	points []api.Point
	was    int
	state  api.State
	stats  api.Stats
	steps  int
}

func play(m *deno.Machine, op api.Op) told {
	var out told
	if op.Remove {
		out.was = m.Remove(op.Key)
	} else {
		out.answer, out.points = m.Trace(op.Key)
	}
	out.state, out.stats, out.steps = m.State(), m.Stats(), m.Steps()
	return out
}

func playPlain(x *plain, op api.Op) told {
	var out told
	if op.Remove {
		out.was = x.remove(op.Key)
	} else {
		out.answer, out.points = x.access(op.Key)
	}
	out.state, out.stats, out.steps = apart(x.state), x.stats, x.steps
	return out
}

func sameTold(x, y told) bool {
	return sameAnswer(x.answer, y.answer) && samePoints(x.points, y.points) && x.was == y.was && sameState(x.state, y.state) && x.stats == y.stats && x.steps == y.steps
}

// Texts by chance, against the plain reading of the chapter.
func TestChanceTexts(t *testing.T) {
	traps := map[api.Trap]int{}
	hits, evictions, removals := 0, 0, 0
	for seed := range int64(2000) {
		d, r := chance(t, seed)
		m, x := d.machine(t), newPlain(d.p, d.u, d.c)
		for n, op := range operations(r.Rand, 60) {
			got, want := play(m, op), playPlain(x, op)
			if !sameTold(got, want) {
				t.Fatalf("%s\n%v, operation %d, %v:\n%v; want\n%v", d.text, d.c, n, op, got, want)
			}
			traps[got.answer.Trap]++
		}
		hits, evictions, removals = hits+x.stats.Hits, evictions+x.stats.Evictions, removals+x.stats.Removals
	}
	if traps[api.TNone] < 60000 || traps[api.TFull] < 2000 || traps[api.TEmpty] < 2000 || traps[api.TWhere] < 2000 || hits < 10000 || evictions < 3000 || removals < 2000 {
		t.Errorf("what was met: %v, %d hits, %d evictions, %d removals", traps, hits, evictions, removals)
	}
}

// residents are the keys of a state that are resident, and of all those there how often.
func residents(p api.Policy, s api.State) (list []uint64, often map[uint64]int) {
	often = map[uint64]int{}
	for q, entries := range s.Queues {
		for _, e := range entries {
			often[e.Key]++
			if !p.Queues[q].Ghost {
				list = append(list, e.Key)
			}
		}
	}
	return list, often
}

// wantMayBe wants a state to be one that may be.
func wantMayBe(t *testing.T, d made, s api.State) {
	t.Helper()
	list, often := residents(d.p, s)
	right := len(list) <= d.c.Size && len(s.Queues) == len(d.c.Queues) && len(s.Vars) == len(d.u.Vars)
	for q, entries := range s.Queues {
		right = right && len(entries) <= d.c.Queues[q]
		for _, e := range entries {
			right = right && often[e.Key] == 1 && len(e.Tags) == len(d.u.Tags)
			for i, n := range e.Tags {
				right = right && 0 <= n && n <= d.u.Tags[i]
			}
		}
	}
	for i, n := range s.Vars {
		right = right && d.u.Vars[i].Lo <= n && n <= d.u.Vars[i].Hi
	}
	if !right {
		t.Fatalf("%s\n%v: %v", d.text, d.c, s)
	}
}

func TestP1107(t *testing.T) {
	for seed := range int64(600) {
		d, r := chance(t, seed+10000)
		m := d.machine(t)
		wantMayBe(t, d, m.State())
		for _, op := range operations(r.Rand, 60) {
			before, stats := m.State(), m.Stats()
			out := play(m, op)
			wantMayBe(t, d, out.state)
			was, _ := residents(d.p, before)
			now, _ := residents(d.p, out.state)
			for _, key := range now {
				if !slices.Contains(was, key) && (key != op.Key || op.Remove) {
					t.Fatalf("%s\n%v: %d became resident", d.text, op, key)
				}
			}
			for _, key := range was {
				if !slices.Contains(now, key) && !slices.Contains(out.answer.Evicted, key) && !(op.Remove && key == op.Key) {
					t.Fatalf("%s\n%v: %d is resident no more", d.text, op, key)
				}
			}
			if out.answer.Trap != api.TNone && (!sameState(out.state, before) || out.stats != stats || out.answer.Hit || len(out.answer.Evicted) > 0) {
				t.Fatalf("%s\n%v: %v; it was %v, %v", d.text, op, out, before, stats)
			}
		}
	}
}

// renamed is what was told, with other keys.
func renamed(x told, name func(uint64) uint64) told {
	x.answer.Evicted = slices.Clone(x.answer.Evicted)
	for i, key := range x.answer.Evicted {
		x.answer.Evicted[i] = name(key)
	}
	x.state = apart(x.state)
	for _, list := range x.state.Queues {
		for i := range list {
			list[i].Key = name(list[i].Key)
		}
	}
	return x
}

func TestP1108(t *testing.T) {
	edges := []uint64{math.MaxUint64, 0, 1 << 63, 1<<63 - 1, 1, 1 << 32, math.MaxUint64 - 1, 2, 1<<32 - 1}
	for seed := range int64(600) {
		d, r := chance(t, seed+20000)
		by := []func(uint64) uint64{
			func(key uint64) uint64 { return ^key },
			func(key uint64) uint64 { return key*0x9e3779b97f4a7c15 + 7 },
			func(key uint64) uint64 { return key << 40 },
			func(key uint64) uint64 {
				if key < uint64(len(edges)) {
					return edges[key]
				}
				return key << 20
			},
		}[seed%4]
		m, other := d.machine(t), d.machine(t)
		for _, op := range operations(r.Rand, 60) {
			want := renamed(play(m, op), by)
			op.Key = by(op.Key)
			if got := play(other, op); !sameTold(got, want) {
				t.Fatalf("%s\n%v: %v; want %v", d.text, op, got, want)
			}
		}
	}
}

// ask asks for all that changes nothing.
func ask(m *deno.Machine, r *rand.Rand) {
	for range r.Intn(4) {
		switch r.Intn(5) {
		case 0:
			m.State()
		case 1:
			m.Stats()
		case 2:
			m.Steps()
		case 3:
			m.Twin()
		case 4:
			m.Remove(1 << 50)
		}
	}
}

func TestP1109(t *testing.T) {
	for seed := range int64(300) {
		d, r := chance(t, seed+30000)
		m, asked, accessed := d.machine(t), d.machine(t), d.machine(t)
		other := m.Twin()
		for _, op := range operations(r.Rand, 60) {
			ask(asked, r.Rand)
			if n := asked.Remove(1 << 50); n != api.RNone {
				t.Fatalf("%s\nRemove of what is nowhere: %d", d.text, n)
			}
			want := play(m, op)
			if got := play(asked, op); !sameTold(got, want) {
				t.Fatalf("%s\n%v: %v; want %v", d.text, op, got, want)
			}
			// Access instead of Trace.
			var answer api.Answer
			if op.Remove {
				accessed.Remove(op.Key)
			} else {
				answer = accessed.Access(op.Key)
			}
			if !sameAnswer(answer, want.answer) || !sameState(accessed.State(), want.state) || accessed.Stats() != want.stats || accessed.Steps() != want.steps {
				t.Fatalf("%s\n%v: Access: %v; Trace: %v", d.text, op, answer, want)
			}
			if got := play(other, op); !sameTold(got, want) {
				t.Fatalf("%s\n%v: a twin: %v; want %v", d.text, op, got, want)
			}
			if r.Intn(5) == 0 {
				other = wantTwin(t, d, m, r.Rand)
			}
		}
	}
}

// wantTwin wants a twin to be like its machine, and the two not to see one another. It answers another twin.
func wantTwin(t *testing.T, d made, m *deno.Machine, r *rand.Rand) *deno.Machine {
	t.Helper()
	other, third := m.Twin(), m.Twin()
	state, stats, steps := m.State(), m.Stats(), m.Steps()
	if !sameState(other.State(), state) || other.Stats() != stats || other.Steps() != steps {
		t.Fatalf("%s\na twin of %v, %v, %d has %v, %v, %d", d.text, state, stats, steps, other.State(), other.Stats(), other.Steps())
	}
	for _, op := range operations(r, 10) {
		play(other, op)
	}
	for _, same := range []*deno.Machine{m, third} {
		if !sameState(same.State(), state) || same.Stats() != stats || same.Steps() != steps {
			t.Fatalf("%s\nit was %v, %v, %d, and is %v, %v, %d behind what its twin did", d.text, state, stats, steps, same.State(), same.Stats(), same.Steps())
		}
	}
	return third
}

// laid has the rows of one row, with the rules' blocks in the places of their calls.
func laid(p api.Policy, at int) []api.Row {
	row := p.Rows[at]
	if row.Kind == api.NCall {
		return laid(p, p.Rules[row.N])
	}
	list := []api.Row{row}
	for _, kid := range gram.Kids(p.Rows, at) {
		list = append(list, laid(p, kid)...)
	}
	return list
}

// resolved is the policy of rows that have had their numbers.
func resolved(rows []api.Row) (api.Policy, bool) {
	list := slices.Clone(rows)
	for at := range list {
		if list[at].Kind != api.NNum {
			list[at].N = 0
		}
	}
	p, fault := names.Resolve(list)
	return p, fault == (api.Fault{})
}

// inlined has no calls in its events. (The rules stay.)
func inlined(p api.Policy) (api.Policy, bool) {
	list := []api.Row{p.Rows[0]}
	for _, kid := range gram.Kids(p.Rows, 0) {
		if kind := p.Rows[kid].Kind; kind == api.NHit || kind == api.NGhost || kind == api.NMiss {
			list = append(list, laid(p, kid)...)
		} else {
			list = append(list, p.Rows[kid:gram.End(p.Rows, kid)]...)
		}
	}
	return resolved(list)
}

// passing has some NPass more.
func passing(p api.Policy, r *rand.Rand) (api.Policy, bool) {
	list := slices.Clone(p.Rows)
	for range 1 + r.Intn(5) {
		at := r.Intn(len(list))
		if list[at].Kind != api.NBlock {
			continue
		}
		ends := append(gram.Kids(list, at), gram.End(list, at))
		list[at].Kids++
		list = slices.Insert(list, ends[r.Intn(len(ends))], api.Row{Kind: api.NPass})
	}
	return resolved(list)
}

func TestP1110(t *testing.T) {
	calls, passes := 0, 0
	for seed := range int64(600) {
		d, r := chance(t, seed+40000)
		first, is := inlined(d.p)
		if !is {
			continue
		}
		if len(first.Rows) != len(d.p.Rows) {
			calls++
		}
		second, is := passing([]api.Policy{d.p, first}[seed%2], r.Rand)
		if !is {
			t.Fatalf("%s\nit is none with NPass", d.text)
		}
		if len(second.Rows) != len([]api.Policy{d.p, first}[seed%2].Rows) {
			passes++
		}
		machines := []*deno.Machine{d.machine(t)}
		for _, p := range []api.Policy{first, second} {
			u, fault := typed.Check(p, d.c)
			if fault != (api.Fault{}) {
				t.Fatal(fault)
			}
			machines = append(machines, made{p, u, d.c, d.text}.machine(t))
		}
		for _, op := range operations(r.Rand, 60) {
			want := play(machines[0], op)
			for i, m := range machines[1:] {
				got := play(m, op)
				if !sameAnswer(got.answer, want.answer) || got.was != want.was || !sameState(got.state, want.state) || got.stats != want.stats {
					t.Fatalf("%s\n%v, %d: %v; want %v", d.text, op, i, got, want)
				}
			}
		}
	}
	if calls < 100 || passes < 100 {
		t.Errorf("%d policies had calls, %d other ones passes", calls, passes)
	}
}

// wantLies wants a point to lie in what was judged of its row.
func wantLies(t *testing.T, d made, facts []api.Facts, point api.Point) {
	t.Helper()
	f := facts[point.Row]
	in := func(n int, s api.Span) bool { return s.Lo <= n && n <= s.Hi }
	right := f.Reached && in(point.Total, f.Total)
	for q := range point.Lens {
		right = right && in(point.Lens[q], f.Lens[q])
	}
	for i := range point.Vars {
		right = right && in(point.Vars[i], f.Vars[i])
	}
	if point.Place >= 0 {
		right = right && f.At[point.Place]
	} else {
		right = right && f.Nowhere
	}
	if !right {
		t.Fatalf("%s\n%v: %v; judged as %v", d.text, d.c, point, f)
	}
}

// wantSound wants operations to do nothing but what the judgment and the bound tell, and counts what they came to.
func wantSound(t *testing.T, d made, facts []api.Facts, list []api.Op) (points, most int) {
	t.Helper()
	costs, fault := cost.Bound(d.p, d.u)
	if fault != (api.Fault{}) {
		t.Fatalf("%s\n%v", d.text, fault)
	}
	m := d.machine(t)
	for _, op := range list {
		bound := costs.Miss
		for q, entries := range m.State().Queues {
			if slices.ContainsFunc(entries, func(e api.Entry) bool { return e.Key == op.Key }) {
				bound = costs.On[q]
			}
		}
		out := play(m, op)
		if out.answer.Trap != api.TNone {
			t.Fatalf("%s\n%v, %v: %v", d.text, d.c, op, out)
		}
		if !op.Remove && out.steps > bound {
			t.Fatalf("%s\n%v, %v: %d steps; its bound is %d", d.text, d.c, op, out.steps, bound)
		}
		if !op.Remove && out.steps == bound {
			most++
		}
		for _, point := range out.points {
			wantLies(t, d, facts, point)
		}
		points += len(out.points)
	}
	return points, most
}

// What the judgment takes never traps, is always as it was judged, and takes no more steps than its bound.
func TestP904AndP1004(t *testing.T) {
	taken, points, most := 0, 0, 0
	for seed := range int64(2500) {
		m := newMaker(seed+50000, []float64{1, 0.99}[seed%2])
		p, text := m.policy()
		c := m.caps(p.Queues)
		u, fault := typed.Check(p, c)
		if fault != (api.Fault{}) {
			t.Fatal(fault)
		}
		facts, fault := room.Judge(p, u, c)
		if fault != (api.Fault{}) {
			continue
		}
		n, top := wantSound(t, made{p, u, c, text}, facts, operations(m.Rand, 60))
		taken, points, most = taken+1, points+n, most+top
	}
	if taken < 500 || points < 20000 || most < 2000 {
		t.Errorf("%d were taken, with %d points; %d took as many steps as their bound", taken, points, most)
	}
}

// Whatever is handed in, New ends, and answers the error that is asked for, or a machine that runs.
func TestP1AnyPolicy(t *testing.T) {
	r := rand.New(rand.NewSource(1101))
	odd := func() int {
		return []int{0, 1, 2, 3, -1, -2, r.Intn(20), r.Intn(100), math.MaxInt, math.MinInt}[r.Intn(10)]
	}
	right := 0
	for seed := range int64(1500) {
		d, _ := chance(t, seed%80)
		d.p.Rows, d.p.On, d.c.Queues = slices.Clone(d.p.Rows), slices.Clone(d.p.On), slices.Clone(d.c.Queues)
		for range 1 + r.Intn(2) {
			at := r.Intn(len(d.p.Rows))
			switch r.Intn(12) {
			case 0:
				d.p.Rows[at].Kind = r.Intn(api.NCount+2) - 1
			case 1:
				d.p.Rows[at].N = odd()
			case 2:
				d.p.Rows[at].Kids = odd()
			case 3:
				d.p.Rows = d.p.Rows[:at+1]
			case 4:
				d.u.Rounds[r.Intn(len(d.u.Rounds))] = odd()
			case 5:
				d.p.Rules = append(d.p.Rules, odd())
			case 6:
				d.p.On[r.Intn(len(d.p.On))] = odd()
			case 7:
				d.c.Size = odd()
			case 8:
				d.c.Queues[r.Intn(len(d.c.Queues))] = odd()
			case 9:
				d.p.Miss = odd()
			case 10:
				d.u.Vars = append(d.u.Vars, api.Var{Init: odd()})
			case 11:
				d.p.Rows[at].End = odd()
			}
		}
		m, err := deno.New(d.p, d.u, d.c)
		if want := errorOf(d); err != want || (m == nil) != (err != api.OK) {
			t.Fatalf("%v, %v: %v; want %v", d.p, d.c, err, want)
		}
		if m != nil {
			right++
			for _, op := range operations(r, 10) {
				play(m, op)
			}
		}
	}
	if right < 50 {
		t.Errorf("only %d were right", right)
	}
}

// errorOf is P1101's.
func errorOf(d made) api.Errno {
	if err := names.Check(d.p); err != api.OK {
		return err
	}
	u, fault := typed.Check(d.p, d.c)
	if fault.Err == api.OK && (!slices.Equal(u.Vars, d.u.Vars) || !slices.Equal(u.Tags, d.u.Tags) || !slices.Equal(u.Rounds, d.u.Rounds)) {
		return api.ErrArg
	}
	return fault.Err
}

// within wants something to be done in a moment.
func within(t *testing.T, what string, do func()) {
	t.Helper()
	start := time.Now()
	do()
	if took := time.Since(start); took > 10*time.Second {
		t.Errorf("%s took %v", what, took)
	}
}

// As many rows as an event may have, each below the one ahead.
func TestDeepTrees(t *testing.T) {
	within(t, "a sum", func() {
		wantSteps(t, "set w = "+strings.Repeat("1 + ", 8000)+"1;", 16002, "w 8001")
	})
	within(t, "a sum that traps", func() {
		wantSteps(t, "set w = "+strings.Repeat("1 + ", 8000)+"t(x);", 16003, "where")
	})
	within(t, "an else-if", func() {
		wantSteps(t, strings.Repeat("if full(g) { drop g back; } else ", 4000)+"{ pass; }", 8002, "w 5")
	})
	within(t, "doings", func() { wantSteps(t, strings.Repeat("pass; ", 16000), 16000, "w 5") })
	within(t, "blocks", func() { wantSteps(t, strings.Repeat("{ ", 60)+strings.Repeat("} ", 60), 60, "w 5") })
	within(t, "a loop's first expression", func() {
		wantSteps(t, "loop "+strings.Repeat("0 + ", 8000)+"3 while true { }", 1+3*2, "w 5")
	})
	text, want := things+"rule r0 { set w = w + 1; } ", 5
	for i := range 10 {
		text += fmt.Sprintf("rule r%d { call r%d; call r%d; } ", i+1, i, i)
		want = 3 + 2*want
	}
	within(t, "calls", func() {
		m := open(t, text+"on miss { call r10; } }", usual())
		if a := m.Access(1); !sameAnswer(a, api.Answer{}) || m.Steps() != 2+want || m.State().Vars[1] != 5+1024 {
			t.Errorf("%v, %d steps, %v", a, m.Steps(), m.State().Vars)
		}
	})
	// What is called by no event may be as much as it likes.
	for i := 10; i < api.MaxRules-1; i++ {
		text += fmt.Sprintf("rule r%d { call r%d; call r%d; } ", i+1, i, i)
	}
	within(t, "calls that nobody calls", func() {
		m := open(t, text+"on miss { call r1; } }", usual()).Twin()
		if m.Access(1); m.Steps() != 2+13 {
			t.Errorf("%d steps", m.Steps())
		}
	})
	within(t, "a sum of a rule that nobody calls", func() {
		m := open(t, things+"rule r { set w = "+strings.Repeat("1 + ", 32000)+"1; } on miss { pass; } }", usual()).Twin()
		if m.Access(1); m.Steps() != 2 {
			t.Errorf("%d steps", m.Steps())
		}
	})
}

// As many rounds as a loop may have; what they did is undone all the same.
func TestLongLoops(t *testing.T) {
	const loop = "loop 4194304 while true { set w = w + 1; insert a front; mark x t = 3; evict a back; } "
	within(t, "a loop", func() {
		m := open(t, things+"on miss { "+loop+"} }", usual())
		if a := m.Access(7); a.Trap != api.TNone || len(a.Evicted) != api.MaxLoop || slices.Max(a.Evicted) != 7 || slices.Min(a.Evicted) != 7 {
			t.Errorf("%v, %d evicted", a.Trap, len(a.Evicted))
		}
		if m.Steps() != 2+api.MaxLoop*(2+4+1+3+1) || m.State().Vars[1] != 5+api.MaxLoop || m.Stats() != (api.Stats{Misses: 1, Evictions: api.MaxLoop}) {
			t.Errorf("%d steps, %v, %v", m.Steps(), m.State(), m.Stats())
		}
	})
	within(t, "a loop, undone", func() {
		m := open(t, things+"on miss { "+loop+"forget; } }", usual())
		if a := m.Access(7); !sameAnswer(a, api.Answer{Trap: api.TWhere}) || m.Steps() != 3+api.MaxLoop*11 || tellState(m.State()) != "/ / / ; 0 5" || m.Stats() != (api.Stats{}) {
			t.Errorf("%v, %d steps, %v", a, m.Steps(), m.State())
		}
	})
	within(t, "a loop, traced", func() {
		m := open(t, "policy p { queue q resident; on miss { loop 1000000 while true { pass; } } }", api.Caps{Size: 1, Queues: []int{1}})
		if _, points := m.Trace(7); len(points) != 1+1000000 || points[1000000].Row != 8 {
			t.Errorf("%d points", len(points))
		}
	})
}

// A machine holds no more than its state, however long it runs.
func TestHoldsLittle(t *testing.T) {
	small := api.Caps{Size: 2, Queues: []int{2, 2}}
	for _, text := range []string{
		"policy p { queue q resident; queue g ghost; on miss { if full(q) { if full(g) { drop g back; } evict q back to g front; } insert q front; } }",
		"policy p { queue q resident; queue g ghost; on miss { insert q front; evict q back; insert g front; evict q back; } }",
		"policy p { queue q resident; queue g ghost; on miss { insert q front; } }",
	} {
		m := open(t, text, small)
		before := heap()
		for key := range uint64(200000) {
			if m.Access(key); strings.Contains(text, "{ insert q front; }") {
				m.Remove(key)
			}
		}
		if after := heap(); after > before+1<<20 {
			t.Errorf("%s: %d bytes more", text, after-before)
		}
		runtime.KeepAlive(m)
	}
	// Nor what it answered.
	m := open(t, "policy p { queue q resident; on miss { loop 100000 while true { insert q front; evict q back; } } }", api.Caps{Size: 1, Queues: []int{1}})
	before := heap()
	m.Trace(7)
	if after := heap(); after > before+1<<20 {
		t.Errorf("%d bytes more", after-before)
	}
	runtime.KeepAlive(m)
}

// heap is how many bytes are in use.
func heap() uint64 {
	var s runtime.MemStats
	runtime.GC()
	runtime.ReadMemStats(&s)
	return s.HeapAlloc
}

// The greatest capacities.
func TestGreatCapacities(t *testing.T) {
	const most = api.MaxCap
	within(t, "an lru", func() {
		m := open(t, published[1], api.Caps{Size: most, Queues: []int{most}})
		for key := range uint64(most) {
			m.Access(key)
		}
		for n := range uint64(most / 4) {
			if a := m.Access((n*7919 + 1) % most); !a.Hit {
				t.Fatalf("%d: %v", n, a)
			}
		}
		if a := m.Access(most); !sameAnswer(a, api.Answer{Evicted: []uint64{0}}) {
			t.Errorf("%v", a)
		}
		if n := m.Remove(7919 * 2); n != api.RResident || len(m.State().Queues[0]) != most-1 || m.Stats() != (api.Stats{Hits: most / 4, Misses: most + 1, Evictions: 1, Removals: 1}) {
			t.Errorf("%d, %v", n, m.Stats())
		}
	})
	// A hand that goes round once; and what it did undone.
	for inner, want := range map[string]api.Answer{"evict q back;": {Evicted: []uint64{0}}, "evict q back; forget;": {Trap: api.TWhere}} {
		within(t, "a clock", func() {
			m := open(t, strings.Replace(published[2], "evict q back;", inner, 1), api.Caps{Size: most / 4, Queues: []int{most / 4}})
			for key := range uint64(most / 4) {
				m.Access(key)
				m.Access(key)
			}
			before := m.State()
			if a := m.Access(most); !sameAnswer(a, want) || m.Steps() != 7+9*most/4 || want.Trap != api.TNone && !sameState(m.State(), before) {
				t.Errorf("%s: %v, %d steps", inner, a, m.Steps())
			}
		})
	}
}
