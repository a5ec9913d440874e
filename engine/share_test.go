package engine_test

import (
	"slices"
	"testing"

	"winnow/api"
	"winnow/code"
	"winnow/engine"
)

// spare is a list with spare room behind it, in which something stands.
func spare[T any](list []T, last T) []T {
	return append(slices.Clone(list), last, last)[:len(list)]
}

func sameRoom[T comparable](a, b []T) bool { return slices.Equal(a[:cap(a)], b[:cap(b)]) }

// fill puts something in all of a list, and into its spare room.
func fill[T any](list []T, value T) {
	for i := range list[:cap(list)] {
		list[:cap(list)][i] = value
	}
}

func spareTraces(traces [][]api.Op) [][]api.Op {
	var list [][]api.Op
	for _, x := range traces {
		list = append(list, spare(x, api.Op{Key: 77}))
	}
	return spare(list, []api.Op{{Key: 78}})
}

func TestP2NothingIsChanged(t *testing.T) {
	for seed := range int64(150) {
		d := chance(t, seed+110000)
		text, c := spare([]byte(d.text), '@'), api.Caps{Size: d.c.Size, Queues: spare(d.c.Queues, -7)}
		wasText, wasQueues := slices.Clone(text[:cap(text)]), slices.Clone(c.Queues[:cap(c.Queues)])
		e, _ := engine.Load(text, c)
		list, traces := spare(operations(d.Rand, 30), api.Op{Key: 79}), spareTraces(tracesOf(d.Rand, 6, 20))
		wasList := slices.Clone(list[:cap(list)])
		var wasTraces [][]api.Op
		for _, x := range traces[:cap(traces)] {
			wasTraces = append(wasTraces, slices.Clone(x[:cap(x)]))
		}
		e.Play(list)
		e.Farm(3, traces)
		e.Farm(0, traces)
		if !slices.Equal(text[:cap(text)], wasText) || !slices.Equal(c.Queues[:cap(c.Queues)], wasQueues) || c.Size != d.c.Size || !slices.Equal(list[:cap(list)], wasList) {
			t.Fatalf("%s\n%v, %v", text, c, list)
		}
		for i, x := range traces[:cap(traces)] {
			if !slices.Equal(x[:cap(x)], wasTraces[i]) {
				t.Fatalf("%v; it was %v", x, wasTraces[i])
			}
		}
		engine.Load(text[:len(text)-2], c)
		if !slices.Equal(text[:cap(text)], wasText) {
			t.Fatalf("%s", text)
		}
	}
}

// What was handed in is not kept: it may be anything afterwards.
func TestP2NothingIsKept(t *testing.T) {
	for seed := range int64(150) {
		d := chance(t, seed+120000)
		text, c := spare([]byte(d.text), '@'), api.Caps{Size: d.c.Size, Queues: spare(d.c.Queues, -7)}
		e, _ := engine.Load(text, c)
		other := load(t, d.text, d.c)
		fill(text, '}')
		fill(c.Queues, 1)
		for range 4 {
			list, traces := operations(d.Rand, 20), tracesOf(d.Rand, 4, 20)
			want, wantFarm := other.Play(list), farm(t, other, 2, traces)
			got, gotFarm := e.Play(list), farm(t, e, 3, traces)
			fill(list, api.Op{Key: 99})
			for _, x := range traces {
				fill(x, api.Op{Key: 99})
			}
			if !sameTrace(got, want) || !sameFarm(gotFarm, wantFarm) || !sameState(e.State(), other.State()) || !code.Same(e.Program(), other.Program()) {
				t.Fatalf("%s\n%v; want %v", d.text, got, want)
			}
		}
	}
}

// marked puts a number of its own into each list, and wants each to have its own still when all are done.
type marked struct {
	next   int
	checks []func() bool
}

func mark[T comparable](m *marked, list []T, value func(int) T) {
	m.next++
	mine := value(m.next)
	fill(list, mine)
	m.checks = append(m.checks, func() bool {
		return !slices.ContainsFunc(list[:cap(list)], func(x T) bool { return x != mine })
	})
}

func number(n int) int { return -1000 - n }

func key(n int) uint64 { return uint64(100000 + n) }

func (m *marked) wantApart(t *testing.T) {
	t.Helper()
	for _, right := range m.checks {
		if !right() {
			t.Fatal("two lists share memory")
		}
	}
}

func (m *marked) tolds(list []api.Told) {
	for _, x := range list {
		mark(m, x.Evicted, key)
	}
	for i := range list[:cap(list)] {
		list[:cap(list)][i] = api.Told{Was: 99}
	}
}

func (m *marked) state(s api.State) {
	mark(m, s.Vars, number)
	for _, list := range s.Queues {
		for _, e := range list {
			mark(m, e.Tags, number)
		}
		fill(list, api.Entry{Key: 99})
	}
	fill(s.Queues, nil)
}

func (m *marked) layout(x api.Layout) {
	for _, list := range x.Lists {
		mark(m, list, number)
	}
	mark(m, x.Free, number)
	mark(m, x.Keys, key)
	mark(m, x.Nodes, number)
	fill(x.Lists, nil)
}

func (m *marked) program(p api.Program) {
	fill(p.Ghost, true)
	mark(m, p.Vars, func(n int) api.Var { return api.Var{Init: n} })
	mark(m, p.Tags, number)
	mark(m, p.On, number)
	mark(m, p.Code, func(n int) api.Instr { return api.Instr{Op: number(n)} })
}

// What is told is the caller's own, spare room too: whatever is put there, no other list of any answer has it, and the engine and its twins go on as they would.
func TestP2AnswersAreApart(t *testing.T) {
	for seed := range int64(150) {
		d := chance(t, seed+130000)
		e, other := load(t, d.text, d.c), load(t, d.text, d.c)
		twin := e.Twin()
		var m marked
		for range 5 {
			list, traces := operations(d.Rand, 12), tracesOf(d.Rand, 5, 20)
			want, wantFarm := other.Play(list), farm(t, other, 2, traces)
			for _, x := range []*engine.Engine{e, twin} {
				got, gotFarm := x.Play(list), farm(t, x, 3, traces)
				if !sameTrace(got, want) || !sameFarm(gotFarm, wantFarm) || !sameState(x.State(), other.State()) || !sameLayout(x.Layout(), other.Layout()) || !code.Same(x.Program(), other.Program()) {
					t.Fatalf("%s\n%v: %v; want %v", d.text, list, got, want)
				}
				m.tolds(got)
				for _, one := range gotFarm {
					m.tolds(one)
				}
				fill(gotFarm, nil)
				m.state(x.State())
				m.layout(x.Layout())
				m.program(x.Program())
			}
		}
		m.wantApart(t)
	}
}

// The lists of one answer of Play, of Farm have room of their own.
func TestP2FarmIsApart(t *testing.T) {
	e := load(t, "policy p { queue q resident; on miss { if full(q) { evict q back; evict q back; evict q back; } insert q front; } }", capsOf(4, 4))
	list := ops(t, "1 2 3 4 5 6 7 8 9 -9 1 2 3 4 5 6")
	for _, told := range append(farm(t, e, 4, [][]api.Op{list, list, list}), e.Play(list)) {
		want := tell(told)
		if want != "miss, miss, miss, miss, miss 1 2 3, miss, miss, miss 4 5 6, miss, miss was 1, miss, miss, miss 7 8 1, miss, miss, miss 2 3 4" {
			t.Errorf("%s", want)
		}
		for i := range told {
			_ = append(told[i].Evicted, 77, 78)
		}
		if got := tell(told); got != want {
			t.Errorf("%s; it was %s", got, want)
		}
	}
}

// The same calls answer the same, of each engine that Load answers: no two see one another (P3, P7).
func TestP7Apart(t *testing.T) {
	for seed := range int64(80) {
		d := chance(t, seed+140000)
		list, traces := operations(d.Rand, 40), tracesOf(d.Rand, 5, 20)
		first := load(t, d.text, d.c)
		want, wantFarm := first.Play(list), farm(t, first, 5, traces)
		a, b := load(t, d.text, d.c), load(t, d.text, d.c)
		for i, op := range list {
			for _, e := range []*engine.Engine{a, b} {
				if got := e.Play([]api.Op{op}); !sameTold(got[0], want[i]) {
					t.Fatalf("%s\n%v: %v; it was %v", d.text, op, got, want[i])
				}
			}
		}
		if !sameFarm(farm(t, a, 1, traces), wantFarm) || !sameFarm(farm(t, b, 8, traces), wantFarm) || a == b {
			t.Fatalf("%s", d.text)
		}
	}
}

// Asking changes nothing of what comes.
func TestAskingChangesNothing(t *testing.T) {
	for seed := range int64(100) {
		d := chance(t, seed+150000)
		e, other := load(t, d.text, d.c), load(t, d.text, d.c)
		for _, op := range operations(d.Rand, 40) {
			switch d.Intn(7) {
			case 0:
				e.State()
			case 1:
				e.Stats()
			case 2:
				e.Program()
			case 3:
				e.Layout()
			case 4:
				e.Twin().Play([]api.Op{op, op})
			case 5:
				e.Farm(d.Intn(10), [][]api.Op{{op}, {op, op}})
			case 6:
				e.Play([]api.Op{{Key: 1 << 50, Remove: true}})
			}
			if got, want := play(e, op), play(other, op); !same(got, want) || !sameLayout(e.Layout(), other.Layout()) {
				t.Fatalf("%s\n%v: %v; want %v", d.text, op, got, want)
			}
		}
	}
}
