package verify_test

import (
	"math/rand"
	"slices"
	"testing"

	"winnow/api"
	"winnow/code"
	"winnow/fold"
	"winnow/gen"
	"winnow/gram"
	"winnow/names"
	"winnow/rule"
	"winnow/typed"
)

// made is the program of a right plan.
func made(t *testing.T, p api.Plan) api.Program {
	t.Helper()
	x, err := gen.Make(p)
	if err != api.OK {
		t.Fatalf("%v: %v", p, err)
	}
	return x
}

// plan has two resident queues and two ghosts, two vars, two tags; these are the miss's rows.
func plan(miss []api.Act) api.Plan {
	return api.Plan{Ghost: []bool{false, false, true, true}, Vars: []api.Var{{Hi: 9}, {Hi: 9}}, Tags: []int{3, 1}, On: make([][]api.Act, 4), Miss: miss}
}

func plotted(seed int64) (api.Plan, api.Caps, *plotter) {
	r := newPlotter(seed, []float64{1, 0.95, 0.7, 0.98}[seed%4])
	return r.plan(), r.c, r
}

// What gen tells is taken, also behind its bytes, and folded; and a machine of it takes no more fuel than is told.
func TestP1605(t *testing.T) {
	traps, met := map[api.Trap]int{}, map[int]int{}
	for seed := range int64(3000) {
		p, c, r := plotted(seed)
		folded, _ := fold.Run(p)
		for _, p := range []api.Plan{p, folded} {
			x := made(t, p)
			j := holds(t, x)
			if j.fault != (api.Fault{}) {
				t.Fatalf("%v\n%v", p, j.fault)
			}
			b, _ := code.Encode(x)
			back, _ := code.Decode(b)
			want(t, back, j)
			playedBy(t, x, c, r.Rand, traps, met)
		}
	}
	for op, e := range table {
		if never := op == api.ICap || op == api.ISize; met[op] < 300 != never {
			t.Errorf("%s was done %d times", e.name, met[op])
		}
	}
	if traps[api.TNone] < 100000 {
		t.Errorf("what was met: %v", traps)
	}
}

// nest has loops in one another, of so many rounds each.
func nest(n, rounds int) *tree {
	x := mk(api.RBlock)
	for range n {
		x = mk(api.RBlock).with(mk(api.RLoop, rounds).with(mk(api.RBool, 1), x))
	}
	return x
}

func TestP1605Fuel(t *testing.T) {
	for n := range 80 {
		for _, rounds := range []int{0, 1, 2, 1000, api.MaxLoop} {
			p := plan(nest(n, rounds).flat())
			p.On[2] = acts("block")
			if n%2 == 1 {
				p.On[1] = acts("block(forget)")
			}
			// What a loop takes more than what is in it, from the innermost one on.
			fuel := 1.0
			for range n {
				fuel = 1 + float64(rounds)*(1+2+fuel) + 1 + 1
			}
			x, want := made(t, p), api.Fault{}
			if fuel > 1<<60 {
				want = api.Fault{Err: api.ErrFuel, At: x.Miss}
			}
			if j := holds(t, x); j.fault != want {
				t.Errorf("%d loops of %d: %v; want %v", n, rounds, j.fault, want)
			}
		}
	}
}

// Expressions that want as many operands as may be.
func TestP1605Operands(t *testing.T) {
	number, truth := mk(api.RLen), mk(api.RAt)
	for range 255 {
		number = mk(api.RSub).with(mk(api.RTotal), number)
		truth = mk(api.REq).with(mk(api.RAt), truth)
	}
	for _, x := range []*tree{
		mk(api.RSet).with(number),
		mk(api.RMark).with(mk(api.RX), number),
		mk(api.RIf).with(truth, mk(api.RBlock)),
		mk(api.RLoop, 2).with(mk(api.RAnd).with(truth, mk(api.ROr).with(truth, truth)), mk(api.RBlock)),
	} {
		j := holds(t, made(t, plan(mk(api.RBlock).with(x).flat())))
		if j.fault != (api.Fault{}) || slices.Max(j.heights) != 256 {
			t.Errorf("%v, %d operands", j.fault, slices.Max(j.heights))
		}
	}
}

// Where two events' rows are the same they cost the same, and have the same heights (P1405).
func TestP1405(t *testing.T) {
	for seed := range int64(1000) {
		p, _, r := plotted(seed + 5000)
		for q := range p.On {
			if r.Intn(2) == 0 {
				p.On[q] = slices.Clone(p.Miss)
			}
		}
		x := made(t, p)
		j := answers(t, x)
		for q, at := range x.On {
			if at < 0 || !slices.Equal(p.On[q], p.Miss) {
				continue
			}
			n := len(x.Code) - x.Miss
			if j.costs.On[q] != j.costs.Miss || !slices.Equal(j.heights[at:at+n], j.heights[x.Miss:]) {
				t.Fatalf("%v\n%v", p, j)
			}
		}
	}
}

// paper is the program of a text of the published ones under its capacities for a size; folded, or not.
func paper(t *testing.T, text string, size int, folded bool) (api.Program, api.Caps) {
	t.Helper()
	rows, _, _ := gram.Parse([]byte(text))
	p, _ := names.Resolve(rows)
	c := api.Caps{Size: size}
	for _, queue := range p.Queues {
		n := size
		if queue.Name == "out" {
			n = max(1, size/2)
		}
		if queue.Name == "gone" || p.Name == "s3fifo" && queue.Name == "main" {
			n = size - size/10
		}
		c.Queues = append(c.Queues, n)
	}
	u, fault := typed.Check(p, c)
	if fault != (api.Fault{}) {
		t.Fatalf("%s, %v: %v", p.Name, c, fault)
	}
	plan, _ := rule.Lower(p, u, c)
	if folded {
		plan, _ = fold.Run(plan)
	}
	return made(t, plan), c
}

func TestPublished(t *testing.T) {
	for _, text := range published {
		for _, size := range []int{10, 11, 19, 1 << 19} {
			for _, folded := range []bool{false, true} {
				x, c := paper(t, text, size, folded)
				if j := holds(t, x); j.fault != (api.Fault{}) {
					t.Fatalf("%s, %d: %v", text, size, j.fault)
				}
				if size > 100 {
					continue
				}
				r, m := rand.New(rand.NewSource(int64(size))), newMachine(x, c, answers(t, x))
				for range 500 {
					if trap := m.access(t, uint64(r.Intn(1+r.Intn(3*size)))); trap != api.TNone {
						t.Fatalf("%s, %d: %v", text, size, trap)
					}
				}
			}
		}
	}
}

// Costs of the papers' texts, by hand.
func TestPublishedCosts(t *testing.T) {
	for _, c := range []struct {
		kind     int
		fold     bool
		on, miss int
	}{
		{api.LFifo, false, 0, 9},
		{api.LFifo, true, 0, 7},
		{api.LLru, false, 2, 9},
		{api.LLru, true, 2, 7},
		// Four and the loop; in each of its ten rounds the turn, and nine, or eight; then the last turn, and what evicts, inserts and ends.
		{api.LClock, false, 3, 4 + 1 + 10*(1+9) + 1 + 5},
		{api.LClock, true, 3, 4 + 1 + 10*(1+8) + 1 + 3},
	} {
		x, _ := paper(t, published[c.kind], 10, c.fold)
		if j := answers(t, x); j.costs.On[0] != c.on || j.costs.Miss != c.miss {
			t.Errorf("%d: %v; want %d, %d", c.kind, j.costs, c.on, c.miss)
		}
	}
}
