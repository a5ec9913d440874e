package gen_test

import (
	"fmt"
	"math"
	"math/rand"
	"slices"
	"testing"

	"winnow/api"
	"winnow/fold"
	"winnow/rule"
)

// plotted is a plan by chance, under capacities.
func plotted(seed int64) (api.Plan, api.Caps, *plotter) {
	r := newPlotter(seed, []float64{1, 0.95, 0.7, 0.98}[seed%4])
	return r.plan(), r.c, r
}

// rowsOf is how many rows all events of a plan have.
func rowsOf(p api.Plan) int { return len(slices.Concat(p.On...)) + len(p.Miss) }

// wantAsPlain wants Make and Origin to tell what the plain reading tells, and less than two instructions a row.
func wantAsPlain(t *testing.T, p api.Plan) api.Program {
	t.Helper()
	want, events, rows := plainProgram(p)
	x := program(t, p)
	if !sameProgram(x, want) {
		t.Fatalf("%v\nMake: %v; want %v", p, x, want)
	}
	if a, b := origin(t, p); !slices.Equal(a, events) || !slices.Equal(b, rows) {
		t.Fatalf("%v\nOrigin: %v, %v; want %v, %v", p, a, b, events, rows)
	}
	if n := rowsOf(p); n > 0 && len(x.Code) >= 2*n {
		t.Fatalf("%v\n%d instructions of %d rows", p, len(x.Code), n)
	}
	return x
}

func TestChancePlans(t *testing.T) {
	kinds, met := map[int]int{}, map[int]int{}
	for seed := range int64(4000) {
		p, _, _ := plotted(seed)
		if !isRight(p) {
			t.Fatalf("%v is not right", p)
		}
		for _, i := range wantAsPlain(t, p).Code {
			met[i.Op]++
		}
		for _, a := range append(slices.Concat(p.On...), p.Miss...) {
			kinds[a.Kind]++
		}
	}
	for kind := api.RBlock; kind < api.RCount; kind++ {
		if kinds[kind] < 300 {
			t.Errorf("%s was met %d times", words[kind-1], kinds[kind])
		}
	}
	for op := range api.ICount {
		never := op == api.ICap || op == api.ISize
		if met[op] < 300 != never || never && met[op] > 0 {
			t.Errorf("%s was met %d times", ops[op], met[op])
		}
	}
}

// P1402, told apart from the table: a row's instructions are those in which its own are not; each row has as many as the table names.
func TestP1402Rows(t *testing.T) {
	named := func(a api.Act) int {
		switch a.Kind {
		case api.RBlock, api.RX, api.REnd:
			return 0
		case api.RIf:
			return a.Kids - 1
		case api.RLoop:
			return 4
		case api.RAnd, api.ROr:
			return 3
		}
		return 1
	}
	for seed := range int64(1000) {
		p, _, _ := plotted(seed + 5000)
		events, rows := origin(t, p)
		count := map[[2]int]int{}
		for i, event := range events {
			count[[2]int{event, rows[i]}]++
		}
		for event, acts := range append(slices.Clone(p.On), p.Miss) {
			if event == len(p.On) {
				event = -1
			}
			for row, a := range acts {
				want := named(a)
				if row == 0 {
					want = 1
				}
				if got := count[[2]int{event, row}]; got != want {
					t.Fatalf("%v\nevent %d, row %d: %d instructions; want %d", p, event, row, got, want)
				}
				delete(count, [2]int{event, row})
			}
		}
		if len(count) > 0 {
			t.Fatalf("%v\n%v: no such rows", p, count)
		}
	}
}

// P1403, by chapter 16 read plainly.
func TestP1403Plainly(t *testing.T) {
	for seed := range int64(2000) {
		p, _, _ := plotted(seed + 10000)
		if _, fault := verified(program(t, p)); fault != "" {
			t.Fatalf("%v\n%s", p, fault)
		}
	}
	for text, want := range map[string]string{
		"block(loop 3(bool 1, block))":                    "[0 0 0 0 15]",
		"block(if(at 0, block, block(forget)))":           "[0 0 0 0 4]",
		"block(if(at 0, block(forget)), forget)":          "[0 0 0 0 5]",
		"block(loop 0(at 0, block(forget)))":              "[0 0 0 0 3]",
		"block(if(or(at 0, at 1), block))":                "[0 0 0 0 6]",
		"block(set 0(add(num 1, num 2)), forget)":         "[0 0 0 0 6]",
		"block(loop 2(at 0, block(loop 2(at 1, block))))": fmt.Sprint([]int{0, 0, 0, 0, 1 + 2*(1+2+(1+2*(1+3)+1+1)) + 1 + 1}),
	} {
		fuel, fault := verified(program(t, plan(acts(text))))
		if fmt.Sprint(fuel) != want || fault != "" {
			t.Errorf("%s: %v, %s; want %s", text, fuel, fault, want)
		}
	}
}

// Three loops in one another of the most rounds are too much; two are not; and one that begins at another place than 0.
func TestP1403Fuel(t *testing.T) {
	loops := func(n int) *tree {
		x := mk(api.RBlock)
		for range n {
			x = mk(api.RBlock).with(mk(api.RLoop, api.MaxLoop).with(mk(api.RBool, 1), x))
		}
		return x
	}
	for n, want := range []string{"", "", "", "fuel at 1", "fuel at 1", "fuel at 1"} {
		p := plan(loops(n).flat())
		p.On[2] = acts("block")
		if _, fault := verified(program(t, p)); fault != want {
			t.Errorf("%d loops: %q; want %q", n, fault, want)
		}
	}
}

// As many operands as may be.
func TestP1403Operands(t *testing.T) {
	number, truth := mk(api.RLen), mk(api.RAt)
	for range 255 {
		number = mk(api.RSub).with(mk(api.RTotal), number)
		truth = mk(api.REq).with(mk(api.RAt), truth)
	}
	for _, x := range []*tree{mk(api.RSet).with(number), mk(api.RMark).with(mk(api.RX), number), mk(api.RIf).with(truth, mk(api.RBlock)), mk(api.RLoop, 2).with(mk(api.RAnd).with(truth, mk(api.ROr).with(truth, truth)), mk(api.RBlock))} {
		p := plan(mk(api.RBlock).with(x).flat())
		if _, fault := verified(wantAsPlain(t, p)); fault != "" {
			t.Errorf("%s", fault)
		}
	}
	wantRefused(t, "an operand too many", plan(mk(api.RBlock).with(mk(api.RSet).with(mk(api.RAdd).with(mk(api.RTotal), number))).flat()))
}

func sameEntry(x, y api.Entry) bool { return x.Key == y.Key && slices.Equal(x.Tags, y.Tags) }

func sameState(x, y api.State) bool {
	return slices.Equal(x.Vars, y.Vars) && slices.EqualFunc(x.Queues, y.Queues, func(a, b []api.Entry) bool { return slices.EqualFunc(a, b, sameEntry) })
}

func sameAnswer(x, y api.Answer) bool {
	return x.Hit == y.Hit && x.Trap == y.Trap && slices.Equal(x.Evicted, y.Evicted)
}

// operations are Accesses and some Removes, by chance.
func operations(r *rand.Rand, n int) []api.Op {
	list := make([]api.Op, n)
	keys := 2 + r.Intn(12)
	for i := range list {
		list[i] = api.Op{Key: uint64(r.Intn(keys)), Remove: r.Intn(12) == 0}
	}
	return list
}

// wantAlike wants a machine of a plan's program to answer as the plan's does, with no more fuel than the verifier says. It counts traps.
func wantAlike(t *testing.T, p api.Plan, c api.Caps, list []api.Op, traps map[api.Trap]int) {
	t.Helper()
	x := program(t, p)
	fuel, fault := verified(x)
	m, err := rule.New(p, c)
	if err != api.OK || fault != "" {
		t.Fatalf("%v, %s", err, fault)
	}
	other := newPlain(x, c)
	for n, op := range list {
		where := func() string { return fmt.Sprintf("%v\n%v, operation %d, %v", p, c, n, op) }
		if op.Remove {
			if want, got := m.Remove(op.Key), other.remove(op.Key); got != want {
				t.Fatalf("%s: %d; want %d", where(), got, want)
			}
		} else {
			want, got := m.Access(op.Key), other.access(op.Key)
			if !sameAnswer(got, want) {
				t.Fatalf("%s: %v; want %v", where(), got, want)
			}
			if most := fuel[other.event]; other.used > most {
				t.Fatalf("%s: %d instructions; at most %d", where(), other.used, most)
			}
			traps[want.Trap]++
		}
		if !sameState(other.state, m.State()) || other.stats != m.Stats() {
			t.Fatalf("%s: %v, %v; want %v, %v", where(), other.state, other.stats, m.State(), m.Stats())
		}
	}
}

// P1404, by chapter 17 read plainly.
func TestP1404Plainly(t *testing.T) {
	traps := map[api.Trap]int{}
	for seed := range int64(3000) {
		p, c, r := plotted(seed + 20000)
		wantAlike(t, p, c, operations(r.Rand, 40), traps)
	}
	if traps[api.TNone] < 60000 || traps[api.TFull] < 1000 || traps[api.TEmpty] < 1000 || traps[api.TWhere] < 1000 {
		t.Errorf("what was met: %v", traps)
	}
}

// moved is code that stands so many places further on.
func moved(code []api.Instr, by int) []api.Instr {
	out := slices.Clone(code)
	for i := range out {
		switch out[i].Op {
		case api.IJump, api.IElse, api.ITurn, api.IQuit, api.IAgain:
			out[i].A += by
		}
	}
	return out
}

func TestP1405(t *testing.T) {
	for seed := range int64(1000) {
		p, _, r := plotted(seed + 30000)
		same := p.Miss
		if len(same) == 0 {
			continue
		}
		for q := range p.On {
			if r.Intn(2) == 0 {
				p.On[q] = slices.Clone(same)
			}
		}
		x := wantAsPlain(t, p)
		_, rows := origin(t, p)
		code, from := x.Code[x.Miss:], rows[x.Miss:]
		for q, at := range x.On {
			if !slices.Equal(p.On[q], same) {
				continue
			}
			if got := x.Code[at : at+len(code)]; !slices.Equal(moved(got, x.Miss-at), code) {
				t.Fatalf("%v\n%d: %s; the miss: %s", p, q, tellCode(got), tellCode(code))
			}
			if got := rows[at : at+len(code)]; !slices.Equal(got, from) {
				t.Fatalf("%v\n%d: rows %v; the miss's %v", p, q, got, from)
			}
		}
		// What stands ahead, and whether anything does, does not bear on it.
		p.On = make([][]api.Act, len(p.On))
		if alone := program(t, p); alone.Miss != 0 || !slices.Equal(moved(alone.Code, x.Miss), code) {
			t.Fatalf("%v\nalone: %s; the miss: %s", p, tellCode(alone.Code), tellCode(code))
		}
	}
}

// P1306: the program of what is folded uses no more instructions, in each operation that does not trap.
func TestP1306Plainly(t *testing.T) {
	less, like := 0, 0
	for seed := range int64(1500) {
		p, c, r := plotted(seed + 40000)
		folded, err := fold.Run(p)
		if err != api.OK {
			t.Fatal(err)
		}
		m, other := newPlain(program(t, p), c), newPlain(wantAsPlain(t, folded), c)
		for _, op := range operations(r.Rand, 40) {
			if op.Remove {
				m.remove(op.Key)
				other.remove(op.Key)
				continue
			}
			want, got := m.access(op.Key), other.access(op.Key)
			if !sameAnswer(got, want) || !sameState(m.state, other.state) {
				t.Fatalf("%v\n%v: %v; want %v", p, op, got, want)
			}
			switch {
			case want.Trap != api.TNone:
			case other.used > m.used:
				t.Fatalf("%v\n%v: %d, then %d", p, op, m.used, other.used)
			case other.used < m.used:
				less++
			default:
				like++
			}
		}
	}
	if less < 10000 || like < 1000 {
		t.Errorf("%d used less, %d as much", less, like)
	}
}

func oddNumber(r *rand.Rand) int {
	return []int{0, 1, 2, 3, -1, r.Intn(6), r.Intn(40), math.MaxInt, math.MinInt, api.MaxNum + 1}[r.Intn(10)]
}

// spoilRows changes something of rows.
func spoilRows(r *rand.Rand, rows []api.Act) []api.Act {
	rows = slices.Clone(rows)
	if len(rows) == 0 {
		return rows
	}
	at, other := r.Intn(len(rows)), r.Intn(len(rows))
	switch r.Intn(8) {
	case 0:
		rows[at].Kind = r.Intn(api.RCount+2) - 1
	case 1:
		rows[at].A = oddNumber(r)
	case 2:
		rows[at].D = oddNumber(r)
	case 3:
		rows[at].Kids = []int{rows[at].Kids + 1, rows[at].Kids - 1, oddNumber(r)}[r.Intn(3)]
	case 4:
		return slices.Delete(rows, at, at+1)
	case 5:
		return slices.Insert(rows, at, rows[other])
	case 6:
		rows[at], rows[other] = rows[other], rows[at]
	case 7:
		rows[at].A ^= 1
	}
	return rows
}

// Whatever is handed in, both calls end, and answer what is asked for.
func TestP1AnyPlan(t *testing.T) {
	right, wrong := 0, 0
	for seed := range int64(6000) {
		p, _, r := plotted(seed % 600)
		r.Seed(seed)
		p.On = slices.Clone(p.On)
		for range 1 + r.Intn(2) {
			switch q := r.Intn(len(p.On)*2 + 1); {
			case q < len(p.On):
				p.On[q] = spoilRows(r.Rand, p.On[q])
			default:
				p.Miss = spoilRows(r.Rand, p.Miss)
			}
		}
		if !isRight(p) {
			wrong++
			wantRefused(t, "a spoilt plan", p)
			continue
		}
		right++
		wantAsPlain(t, p)
	}
	if right < 1000 || wrong < 1000 {
		t.Errorf("%d were right, %d wrong", right, wrong)
	}
}
