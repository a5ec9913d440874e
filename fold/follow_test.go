package fold_test

import (
	"math"
	"math/rand"
	"slices"
	"testing"
	"time"

	"winnow/api"
	"winnow/fold"
	"winnow/rule"
)

// plotted is a plan by chance, under capacities.
func plotted(seed int64) (api.Plan, api.Caps, *plotter) {
	r := newPlotter(seed, []float64{1, 0.95, 0.7, 0.98}[seed%4])
	return r.plan(), r.c, r
}

// wantAsPlain wants Left, Once and Run to tell what the plain reading tells, and what follows of it. It counts what was done.
func wantAsPlain(t *testing.T, p api.Plan, count map[int]int) api.Plan {
	t.Helper()
	event, row, what, is := plainLeft(p)
	if a, b, c, d := fold.Left(p); a != event || b != row || c != what || d != is {
		t.Fatalf("%v\nLeft: %d, %d, %d, %v; want %d, %d, %d, %v", p, a, b, c, d, event, row, what, is)
	}
	next := once(t, p)
	if want := plainOnce(p); !rule.Same(next, want) {
		t.Fatalf("%v\nOnce: %v; want %v", p, next, want)
	}
	last := run(t, p)
	if want := plainRun(p, count); !rule.Same(last, want) {
		t.Fatalf("%v\nRun: %v; want %v", p, last, want)
	}
	return last
}

// rowsOf is how many rows all events of a plan have.
func rowsOf(p api.Plan) int { return len(slices.Concat(p.On...)) + len(p.Miss) }

func TestChancePlans(t *testing.T) {
	count := map[int]int{}
	before, behind := 0, 0
	for seed := range int64(2000) {
		p, _, _ := plotted(seed)
		if !isRight(p) {
			t.Fatalf("%v is not right", p)
		}
		q := wantAsPlain(t, p, count)
		before, behind = before+rowsOf(p), behind+rowsOf(q)
	}
	for what := 1; what <= 19; what++ {
		if count[what] < 150 {
			t.Errorf("%d was met %d times", what, count[what])
		}
	}
	if before < 75000 || behind*4 > before*3 || behind*4 < before {
		t.Errorf("%d rows, then %d", before, behind)
	}
}

func TestP1304(t *testing.T) {
	for seed := range int64(1500) {
		p, _, _ := plotted(seed + 10000)
		for call, q := range map[string]api.Plan{"Once": once(t, p), "Run": run(t, p)} {
			if rule.Check(q) != api.OK || !isRight(q) || rowsOf(q) > rowsOf(p) {
				t.Fatalf("%v\n%s: %v, %v", p, call, rule.Check(q), q)
			}
			if !slices.Equal(q.Ghost, p.Ghost) || !slices.Equal(q.Vars, p.Vars) || !slices.Equal(q.Tags, p.Tags) || len(q.On) != len(p.On) {
				t.Fatalf("%v\n%s: %v", p, call, q)
			}
		}
		q := run(t, p)
		if event, row, what, is := fold.Left(q); is || event != 0 || row != 0 || what != 0 {
			t.Fatalf("%v\nRun: %v, and %d, %d, %d is left", p, q, event, row, what)
		}
		if r := run(t, q); !rule.Same(r, q) || !rule.Same(once(t, q), q) {
			t.Fatalf("%v\nRun of %v: %v", p, q, r)
		}
	}
}

// As many operands as may be: what is folded wants no more.
func TestP1304Operands(t *testing.T) {
	number, truth := mk(api.RLen), mk(api.RAt)
	for range 255 {
		number = mk(api.RSub).with(mk(api.RTotal), number)
		truth = mk(api.REq).with(mk(api.RAt), truth)
	}
	for _, c := range [][2]*tree{
		{mk(api.RSet).with(mk(api.RAdd).with(number, mk(api.RNum))), mk(api.RSet).with(number)},
		{mk(api.RSet).with(mk(api.RNeg).with(mk(api.RNeg).with(number))), mk(api.RSet).with(number)},
		{mk(api.RIf).with(mk(api.REq).with(truth, mk(api.RBool)), mk(api.RBlock).with(mk(api.RForget))), mk(api.RIf).with(truth, mk(api.RBlock), mk(api.RBlock).with(mk(api.RForget)))},
		{mk(api.RLoop, 2).with(mk(api.REq).with(truth, mk(api.RBool)), mk(api.RBlock).with(mk(api.RForget))), mk(api.RLoop, 2).with(mk(api.RNot).with(truth), mk(api.RBlock).with(mk(api.RForget)))},
		{mk(api.RLoop, 2).with(mk(api.RAnd).with(mk(api.RBool, 1), truth), mk(api.RBlock).with(mk(api.RForget))), mk(api.RLoop, 2).with(truth, mk(api.RBlock).with(mk(api.RForget)))},
	} {
		p, want := plan(mk(api.RBlock).with(c[0]).flat()), plan(mk(api.RBlock).with(c[1]).flat())
		if got := run(t, p); !rule.Same(got, want) || rule.Check(got) != api.OK {
			t.Errorf("%s: %s", tell(p.Miss), tell(got.Miss))
		}
	}
}

// outcome is all that an operation tells, and what it leaves behind.
type outcome struct {
	answer api.Answer
	was    int
	state  api.State
	stats  api.Stats
}

func sameEntry(x, y api.Entry) bool { return x.Key == y.Key && slices.Equal(x.Tags, y.Tags) }

func sameOutcome(x, y outcome) bool {
	return x.answer.Hit == y.answer.Hit && x.answer.Trap == y.answer.Trap && slices.Equal(x.answer.Evicted, y.answer.Evicted) && x.was == y.was && x.stats == y.stats && slices.Equal(x.state.Vars, y.state.Vars) &&
		slices.EqualFunc(x.state.Queues, y.state.Queues, func(a, b []api.Entry) bool { return slices.EqualFunc(a, b, sameEntry) })
}

func open(t *testing.T, p api.Plan, c api.Caps) *rule.Machine {
	t.Helper()
	m, err := rule.New(p, c)
	if err != api.OK {
		t.Fatalf("%.300v: %v", p, err)
	}
	return m
}

func play(m *rule.Machine, op api.Op) outcome {
	var out outcome
	if op.Remove {
		out.was = m.Remove(op.Key)
	} else {
		out.answer = m.Access(op.Key)
	}
	out.state, out.stats = m.State(), m.Stats()
	return out
}

// operations are Accesses and some Removes, by chance.
func operations(r *rand.Rand, n int) []api.Op {
	list := make([]api.Op, n)
	keys := 2 + r.Intn(12)
	for i := range list {
		list[i] = api.Op{Key: uint64(r.Intn(keys)), Remove: r.Intn(12) == 0}
	}
	return list
}

// wantAlike wants machines of a plan, of Once and of Run of it to answer alike. It counts traps.
func wantAlike(t *testing.T, p api.Plan, c api.Caps, list []api.Op, traps map[api.Trap]int) {
	t.Helper()
	m := open(t, p, c)
	others := []*rule.Machine{open(t, once(t, p), c), open(t, run(t, p), c)}
	for n, op := range list {
		want := play(m, op)
		for i, other := range others {
			if got := play(other, op); !sameOutcome(got, want) {
				t.Fatalf("%v\n%v, operation %d, %v, %d:\n%v; want\n%v", p, c, n, op, i, got, want)
			}
		}
		traps[want.answer.Trap]++
	}
}

func TestP1305(t *testing.T) {
	traps := map[api.Trap]int{}
	for seed := range int64(3000) {
		p, c, r := plotted(seed + 20000)
		wantAlike(t, p, c, operations(r.Rand, 40), traps)
	}
	if traps[api.TNone] < 60000 || traps[api.TFull] < 1000 || traps[api.TEmpty] < 1000 || traps[api.TWhere] < 1000 {
		t.Errorf("what was met: %v", traps)
	}
}

// The instructions of chapter 14's table, counted here plainly.
func TestUsed(t *testing.T) {
	for _, c := range []struct {
		text string
		want []int // of one Access behind the other, of keys that are new
	}{
		{"block(if(eq(len 0, num 3), block(take 0 1, tell, loose)), insert 0 0)", []int{6, 6, 6, 9, 9}},
		{"block(loop 3(bool 1, block))", []int{15}},
		{"block(loop 3(bool 0, block))", []int{5}},
		{"block(loop 0(bool 0, block))", []int{3}},
		{"block", []int{1}},
		{"block(if(bool 1, block(set 0(num 1)), block), if(bool 0, block, block(set 0(neg(len 0)))))", []int{5 + 5 + 1}},
		{"block(if(or(bool 0, at 0), block))", []int{5}},
		{"block(if(or(bool 1, at 0), block))", []int{6}},
		{"block(if(and(bool 0, at 0), block))", []int{5}},
		{"block(if(and(bool 1, at 0), block))", []int{6}},
		{"block(insert 0 0, mark 0(x, add(tag 0(x), num 1)), spill 0 1 2 0, drop 2 0)", []int{8}},
	} {
		x := newPlain(plan(acts(c.text)), usual())
		for i, want := range c.want {
			if a := x.access(uint64(i)); a.Trap != api.TNone || x.used != want {
				t.Errorf("%s, %d: %v, %d; want %d", c.text, i, a, x.used, want)
			}
		}
	}
}

// What is folded uses no more instructions, in each operation that does not trap.
func TestP1306Plainly(t *testing.T) {
	less, like := 0, 0
	for seed := range int64(1500) {
		p, c, r := plotted(seed + 30000)
		list := operations(r.Rand, 40)
		x, next, last := newPlain(p, c), newPlain(once(t, p), c), newPlain(run(t, p), c)
		for _, op := range list {
			if op.Remove {
				for _, m := range []*plain{x, next, last} {
					m.remove(op.Key)
				}
				continue
			}
			a := x.access(op.Key)
			next.access(op.Key)
			last.access(op.Key)
			if a.Trap != api.TNone {
				continue
			}
			if next.used > x.used || last.used > next.used {
				t.Fatalf("%v\n%v: %d, then %d, then %d", p, op, x.used, next.used, last.used)
			}
			if last.used < x.used {
				less++
			} else {
				like++
			}
		}
	}
	if less < 10000 || like < 1000 {
		t.Errorf("%d used less, %d as much", less, like)
	}
}

func oddNumber(r *rand.Rand) int {
	return []int{0, 1, 2, 3, -1, r.Intn(6), r.Intn(40), math.MaxInt, math.MinInt, api.MaxNum + 1}[r.Intn(10)]
}

// spoilRows changes something of rows.
func spoilRows(r *rand.Rand, rows []api.Act) []api.Act {
	rows = slices.Clone(rows)
	if len(rows) == 0 {
		return rows
	}
	at, other := r.Intn(len(rows)), r.Intn(len(rows))
	switch r.Intn(8) {
	case 0:
		rows[at].Kind = r.Intn(api.RCount+2) - 1
	case 1:
		rows[at].A = oddNumber(r)
	case 2:
		rows[at].D = oddNumber(r)
	case 3:
		rows[at].Kids = []int{rows[at].Kids + 1, rows[at].Kids - 1, oddNumber(r)}[r.Intn(3)]
	case 4:
		return slices.Delete(rows, at, at+1)
	case 5:
		return slices.Insert(rows, at, rows[other])
	case 6:
		rows[at], rows[other] = rows[other], rows[at]
	case 7:
		rows[at].A ^= 1
	}
	return rows
}

// Whatever is handed in, all calls end, and answer what is asked for.
func TestP1AnyPlan(t *testing.T) {
	right, wrong := 0, 0
	for seed := range int64(4000) {
		p, _, r := plotted(seed % 400)
		r.Seed(seed)
		p.On = slices.Clone(p.On)
		for range 1 + r.Intn(2) {
			switch q := r.Intn(len(p.On)*2 + 1); {
			case q < len(p.On):
				p.On[q] = spoilRows(r.Rand, p.On[q])
			default:
				p.Miss = spoilRows(r.Rand, p.Miss)
			}
		}
		if !isRight(p) {
			wrong++
			wantRefused(t, "a spoilt plan", p)
			continue
		}
		right++
		wantAsPlain(t, p, map[int]int{})
	}
	if right < 750 || wrong < 750 {
		t.Errorf("%d were right, %d wrong", right, wrong)
	}
}

// within wants something to be done in a moment.
func within(t *testing.T, what string, do func()) {
	t.Helper()
	start := time.Now()
	do()
	if took := time.Since(start); took > 10*time.Second {
		t.Errorf("%s took %v", what, took)
	}
}
