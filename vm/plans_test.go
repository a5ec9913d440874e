package vm_test

import (
	"fmt"
	"math/rand"
	"slices"
	"strings"
	"testing"

	"winnow/api"
	"winnow/code"
	"winnow/deno"
	"winnow/fold"
	"winnow/gen"
	"winnow/gram"
	"winnow/names"
	"winnow/rule"
	"winnow/typed"
	"winnow/verify"
	"winnow/vm"
)

// plotted is a plan by chance, under capacities.
func plotted(seed int64) (api.Plan, api.Caps, *plotter) {
	r := newPlotter(seed, []float64{1, 0.95, 0.7, 0.98}[seed%4])
	return r.plan(), r.c, r
}

// made is the program of a right plan, out of its bytes.
func made(t *testing.T, p api.Plan) api.Program {
	t.Helper()
	x, err := gen.Make(p)
	if err != api.OK {
		t.Fatalf("%v: %v", p, err)
	}
	b, err := code.Encode(x)
	if err != api.OK {
		t.Fatalf("%v: %v", p, err)
	}
	x, fault := code.Decode(b)
	if fault != (api.Fault{}) {
		t.Fatalf("%v: %v", p, fault)
	}
	return x
}

// meaning is a machine of a plan, or of a text.
type meaning interface {
	Access(key uint64) api.Answer
	Remove(key uint64) int
	State() api.State
	Stats() api.Stats
}

func playMeaning(m meaning, op api.Op) told {
	var out told
	if op.Remove {
		out.was = m.Remove(op.Key)
	} else {
		out.answer = m.Access(op.Key)
	}
	out.state, out.stats = m.State(), m.Stats()
	return out
}

// A machine of what gen makes answers as one of the plan does, traps too, with no more fuel than verify says.
func TestP1404(t *testing.T) {
	traps := map[api.Trap]int{}
	for seed := range int64(2500) {
		p, c, r := plotted(seed)
		x := made(t, p)
		costs, _ := verify.Run(x)
		m := open(t, x, c)
		like, err := rule.New(p, c)
		if err != api.OK {
			t.Fatal(err)
		}
		for n, op := range operations(r.Rand, 40) {
			q := queueOf(m.State(), op.Key)
			got, want := play(m, op), playMeaning(like, op)
			used := got.used
			if got.used = 0; !same(got, want) {
				t.Fatalf("%v\n%v, operation %d, %v:\n%v; want\n%v", p, c, n, op, got, want)
			}
			if most := append(slices.Clone(costs.On), costs.Miss)[(q+len(costs.On)+1)%(len(costs.On)+1)]; !op.Remove && used > most {
				t.Fatalf("%v\n%v, operation %d, %v: %d instructions, at most %d", p, c, n, op, used, most)
			}
			traps[got.answer.Trap]++
		}
	}
	if traps[api.TNone] < 50000 || traps[api.TFull] < 1000 || traps[api.TEmpty] < 1000 || traps[api.TWhere] < 1000 {
		t.Errorf("what was met: %v", traps)
	}
}

// What is folded answers alike, and uses no more instructions, in each operation that does not trap.
func TestP1306(t *testing.T) {
	less, like := 0, 0
	for seed := range int64(1500) {
		p, c, r := plotted(seed + 10000)
		next, _ := fold.Once(p)
		last, err := fold.Run(p)
		if err != api.OK {
			t.Fatal(err)
		}
		m, once, folded := open(t, made(t, p), c), open(t, made(t, next), c), open(t, made(t, last), c)
		for _, op := range operations(r.Rand, 40) {
			a, b, c := play(m, op), play(once, op), play(folded, op)
			if a.answer.Trap == api.TNone && !op.Remove && (b.used > a.used || c.used > b.used) {
				t.Fatalf("%v\n%v: %d, then %d, then %d", p, op, a.used, b.used, c.used)
			}
			if c.used < a.used {
				less++
			} else {
				like++
			}
			b.used, c.used = a.used, a.used
			if !same(a, b) || !same(a, c) {
				t.Fatalf("%v\n%v: %v, then %v, then %v", p, op, a, b, c)
			}
		}
	}
	if less < 10000 || like < 1000 {
		t.Errorf("%d used less, %d as much", less, like)
	}
}

// paper is a text of the published ones under its capacities for a size: its meaning, and machines of its plan, as it is and folded.
func paper(t *testing.T, text string, size int) (*deno.Machine, []*vm.Machine) {
	t.Helper()
	rows, _, _ := gram.Parse([]byte(text))
	p, _ := names.Resolve(rows)
	c := api.Caps{Size: size}
	for _, queue := range p.Queues {
		n := size
		if queue.Name == "out" {
			n = max(1, size/2)
		}
		if queue.Name == "gone" || p.Name == "s3fifo" && queue.Name == "main" {
			n = size - size/10
		}
		c.Queues = append(c.Queues, n)
	}
	u, fault := typed.Check(p, c)
	if fault != (api.Fault{}) {
		t.Fatalf("%s, %v: %v", p.Name, c, fault)
	}
	m, err := deno.New(p, u, c)
	if err != api.OK {
		t.Fatalf("%s, %v: %v", p.Name, c, err)
	}
	plan, _ := rule.Lower(p, u, c)
	folded, _ := fold.Run(plan)
	return m, []*vm.Machine{open(t, made(t, plan), c), open(t, made(t, folded), c)}
}

// asked are keys by chance, most of them often, in runs and scans.
func asked(r *rand.Rand, n, most int) []uint64 {
	var list []uint64
	for len(list) < n {
		if r.Intn(4) > 0 {
			list = append(list, uint64(r.Intn(1+r.Intn(most))))
			continue
		}
		first := r.Intn(most)
		for i := range r.Intn(most) {
			list = append(list, uint64(first+i))
		}
	}
	return list[:n]
}

// The papers' texts, against their meaning: none traps.
func TestPublished(t *testing.T) {
	r := rand.New(rand.NewSource(17))
	for _, text := range published {
		for _, size := range []int{10, 11, 19, 40} {
			like, machines := paper(t, text, size)
			for n, key := range asked(r, 1500, size*3) {
				op := api.Op{Key: key, Remove: r.Intn(25) == 0}
				want := playMeaning(like, op)
				for i, m := range machines {
					got := play(m, op)
					if got.used = 0; !same(got, want) || got.answer.Trap != api.TNone {
						t.Fatalf("%s, %d, operation %d, %v, %d:\n%v; want\n%v", text, size, n, op, i, got, want)
					}
				}
			}
		}
	}
}

// Runs of the papers' caches, as chapter 19 tells them.
func TestPublishedExamples(t *testing.T) {
	for _, c := range []struct {
		kind, size int
		keys       []uint64
		answers    string
		state      string
	}{
		{api.LFifo, 2, []uint64{1, 2, 1, 3}, "miss; miss; hit; miss 1", "3 2 ;"},
		{api.LLru, 2, []uint64{1, 2, 1, 3}, "miss; miss; hit; miss 2", "3 1 ;"},
		{api.LClock, 2, []uint64{1, 2, 1, 3}, "miss; miss; hit; miss 2", "3 1 ;"},
		{api.LTwoQ, 4, []uint64{1, 2, 3, 4, 5, 1, 6}, "miss; miss; miss; miss; miss 1; miss 2; miss 3", "6 5 4 / 3 2 / 1 ;"},
		{api.LS3, 10, []uint64{1, 2, 3, 4, 5, 6, 7, 8, 9, 10, 1, 1, 11, 2}, strings.Repeat("miss; ", 10) + "hit; hit; miss 2; miss 3", "11 10 9 8 7 6 5 4 / 2 1 / 3 ; 1"},
		{api.LArc, 2, []uint64{1, 2, 1, 3, 2, 1}, "miss; miss; hit; miss 2; miss 1; miss 3", "/ 1 2 / 3 / ; 0 1"},
	} {
		_, machines := paper(t, published[c.kind], c.size)
		for _, m := range machines {
			var answers []string
			for _, key := range c.keys {
				answers = append(answers, tellAnswer(m.Access(key)))
			}
			if got := strings.Join(answers, "; "); got != c.answers || tellState(m.State()) != c.state {
				t.Errorf("%d: %s, %s; want %s, %s", c.kind, got, tellState(m.State()), c.answers, c.state)
			}
		}
	}
}

// What the papers' caches use, by hand: of a hit, of a miss that evicts.
func TestPublishedUsed(t *testing.T) {
	for _, c := range []struct {
		kind int
		want string
	}{
		{api.LFifo, "[0 9] [0 7]"},
		{api.LLru, "[2 9] [2 7]"},
		// The hit: INum, IMarkX, IEnd. The miss: ILen, INum, IEq, IElse, ILoop; ITurn, ITagEnd, INum, IEq, IQuit; ITake, ITell, ILoose or IEvict; IInsert, IEnd.
		{api.LClock, "[3 15] [3 13]"},
	} {
		_, machines := paper(t, published[c.kind], 2)
		var got []string
		for _, m := range machines {
			m.Access(1)
			m.Access(2)
			m.Access(2)
			hit := m.Used()
			m.Access(3)
			got = append(got, fmt.Sprint([]int{hit, m.Used()}))
		}
		if list := strings.Join(got, " "); list != c.want {
			t.Errorf("%d: %s; want %s", c.kind, list, c.want)
		}
	}
}
