package vm_test

import (
	"math"
	"math/rand"
	"slices"
	"testing"

	"winnow/api"
	"winnow/verify"
	"winnow/vm"
)

// queueOf is the queue of a state at which a key is; -1: none.
func queueOf(s api.State, key uint64) int {
	return slices.IndexFunc(s.Queues, func(list []api.Entry) bool {
		return slices.ContainsFunc(list, func(e api.Entry) bool { return e.Key == key })
	})
}

// residents are the keys of a state that are resident, and of all those there how often.
func residents(p api.Program, s api.State) (list []uint64, often map[uint64]int) {
	often = map[uint64]int{}
	for q, entries := range s.Queues {
		for _, e := range entries {
			often[e.Key]++
			if !p.Ghost[q] {
				list = append(list, e.Key)
			}
		}
	}
	return list, often
}

// wantMayBe wants a state to be one that may be.
func wantMayBe(t *testing.T, p api.Program, c api.Caps, s api.State) {
	t.Helper()
	list, often := residents(p, s)
	right := len(list) <= c.Size && len(s.Queues) == len(c.Queues) && len(s.Vars) == len(p.Vars)
	for q, entries := range s.Queues {
		right = right && len(entries) <= c.Queues[q]
		for _, e := range entries {
			right = right && often[e.Key] == 1 && len(e.Tags) == len(p.Tags)
			for i, n := range e.Tags {
				right = right && 0 <= n && n <= p.Tags[i]
			}
		}
	}
	for i, n := range s.Vars {
		right = right && p.Vars[i].Lo <= n && n <= p.Vars[i].Hi
	}
	if !right {
		t.Fatalf("%s\n%v: %v", tell(p), c, s)
	}
}

// wantKeys: none but x became resident; whoever is resident no more was told, or removed; and no other than was told went.
func wantKeys(t *testing.T, p api.Program, op api.Op, before api.State, out told) (came, went int) {
	t.Helper()
	was, _ := residents(p, before)
	now, _ := residents(p, out.state)
	for _, key := range now {
		if slices.Contains(was, key) {
			if key != op.Key && slices.Contains(out.answer.Evicted, key) {
				t.Fatalf("%s\n%v: %d was told, and is resident", tell(p), op, key)
			}
			continue
		}
		if came++; key != op.Key || op.Remove {
			t.Fatalf("%s\n%v: %d became resident", tell(p), op, key)
		}
	}
	for _, key := range was {
		if slices.Contains(now, key) {
			continue
		}
		if went++; !slices.Contains(out.answer.Evicted, key) && !(op.Remove && key == op.Key) {
			t.Fatalf("%s\n%v: %d is resident no more", tell(p), op, key)
		}
	}
	for _, key := range out.answer.Evicted {
		if !slices.Contains(was, key) && key != op.Key {
			t.Fatalf("%s\n%v: %d was told, and was not resident", tell(p), op, key)
		}
	}
	return came, went
}

func TestP1706(t *testing.T) {
	came, went, whole := 0, 0, 0
	for seed := range int64(3000) {
		p, c, r := chance(t, seed+10000)
		costs, _ := verify.Run(p)
		m := open(t, p, c)
		wantMayBe(t, p, c, m.State())
		for _, op := range operations(r, 40) {
			before := m.State()
			out := play(m, op)
			wantMayBe(t, p, c, out.state)
			a, b := wantKeys(t, p, op, before, out)
			came, went = came+a, went+b
			if op.Remove {
				continue
			}
			most, begins := costs.Miss, p.Miss >= 0
			if q := queueOf(before, op.Key); q >= 0 {
				most, begins = costs.On[q], p.On[q] >= 0
			}
			if out.used > most || begins != (out.used > 0) {
				t.Fatalf("%s\n%v: %d instructions, at most %d", tell(p), op, out.used, most)
			}
			if out.used == most && most > 4 {
				whole++
			}
		}
	}
	if came < 4000 || went < 1500 || whole < 8000 {
		t.Errorf("%d came, %d went, %d took all their fuel", came, went, whole)
	}
}

// A run that goes all ways at full length takes all the fuel that is told.
func TestP1706NoLess(t *testing.T) {
	for _, text := range []string{
		"forget, end",
		"loop 3, T: turn E, bool 1, quit E, again T, E: end",
		"loop 3, A: turn D, loop 4, B: turn C, bool 1, quit C, num 1, set 0, again B, C: again A, D: end",
		"loop 3, T: turn E, jump B, E: end, B: bool 1, else C, size, set 0, C: again T",
		"bool 0, else B, end, B: loop 2, T: turn E, again T, E: end",
	} {
		p := program("miss: insert 1 0, " + text)
		costs, _ := verify.Run(p)
		m := open(t, p, usual())
		if a := m.Access(7); a.Trap != api.TNone || m.Used() != costs.Miss {
			t.Errorf("%s: %v, %d; want %d", text, a, m.Used(), costs.Miss)
		}
	}
}

// Ahead of each instruction there are as many operands as Heights says (P1604), and loops only where one is open.
func TestP1604(t *testing.T) {
	looked, most, loops := 0, 0, 0
	for seed := range int64(2000) {
		p, c, r := chance(t, seed+20000)
		heights, _ := verify.Heights(p)
		m, like := open(t, p, c), open(t, p, c)
		used := 0
		m.Watch(func(at, op, operands, open int) {
			if operands != heights[at] || op != p.Code[at].Op {
				t.Fatalf("%s\n%d operands at %d; want %d", tell(p), operands, at, heights[at])
			}
			used++
			looked, most, loops = looked+1, max(most, operands), max(loops, open)
		})
		for _, op := range operations(r, 20) {
			if op.Remove {
				m.Remove(op.Key)
				like.Remove(op.Key)
				continue
			}
			used = 0
			got := m.Access(op.Key)
			if want := like.Access(op.Key); !sameAnswer(got, want) || used != m.Used() || used != like.Used() {
				t.Fatalf("%s\n%v: %v, %d; want %v, %d", tell(p), op, got, used, want, like.Used())
			}
		}
	}
	if looked < 200000 || most < 8 || loops < 3 {
		t.Errorf("%d instructions, %d operands, %d loops", looked, most, loops)
	}
}

func TestP1707(t *testing.T) {
	traps := map[api.Trap]int{}
	for seed := range int64(3000) {
		p, c, r := chance(t, seed+30000)
		m := open(t, p, c)
		for _, op := range operations(r, 30) {
			state, stats := m.State(), m.Stats()
			out := play(m, op)
			if out.answer.Trap == api.TNone {
				continue
			}
			traps[out.answer.Trap]++
			for range 2 {
				if !sameAnswer(out.answer, api.Answer{Trap: out.answer.Trap}) || !sameState(out.state, state) || out.stats != stats {
					t.Fatalf("%s\n%v: %v; it was %v, %v", tell(p), op, out, state, stats)
				}
				again := play(m, op)
				if !same(again, out) {
					t.Fatalf("%s\n%v: %v; again %v", tell(p), op, out, again)
				}
			}
		}
	}
	if len(traps) != 3 || traps[api.TFull] < 1000 || traps[api.TEmpty] < 3000 || traps[api.TWhere] < 2000 {
		t.Errorf("what was met: %v", traps)
	}
}

// Keys are names alone.
func TestP1708(t *testing.T) {
	edges := []uint64{math.MaxUint64, 0, 1 << 63, 1<<63 - 1, 1, 1 << 32, math.MaxUint64 - 1, 2, 1<<32 - 1, 3, 4, 5, 6, 7}
	for seed := range int64(1500) {
		p, c, r := chance(t, seed+40000)
		m, other := open(t, p, c), open(t, p, c)
		for _, op := range operations(r, 40) {
			want := play(m, op)
			for i, key := range want.answer.Evicted {
				want.answer.Evicted[i] = edges[key]
			}
			for _, list := range want.state.Queues {
				for i := range list {
					list[i].Key = edges[list[i].Key]
				}
			}
			op.Key = edges[op.Key]
			if got := play(other, op); !same(got, want) {
				t.Fatalf("%s\n%v: %v; want %v", tell(p), op, got, want)
			}
		}
	}
}

// wantTwin wants a twin to be like its machine, and the two not to see one another. It answers another twin.
func wantTwin(t *testing.T, m *vm.Machine, r *rand.Rand) *vm.Machine {
	t.Helper()
	like := func(x *vm.Machine, want told) bool {
		return same(told{used: x.Used(), state: x.State(), stats: x.Stats()}, want)
	}
	want := told{used: m.Used(), state: m.State(), stats: m.Stats()}
	other, third := m.Twin(), m.Twin()
	if !like(other, want) {
		t.Fatalf("a twin of %v has %v, %v, %d", want, other.State(), other.Stats(), other.Used())
	}
	for _, op := range operations(r, 10) {
		play(other, op)
	}
	if !like(m, want) || !like(third, want) {
		t.Fatalf("it was %v, and is %v, %v, %d behind what its twin did", want, m.State(), m.Stats(), m.Used())
	}
	return third
}

func TestP1709(t *testing.T) {
	for seed := range int64(1500) {
		p, c, r := chance(t, seed+50000)
		m, asked := open(t, p, c), open(t, p, c)
		other := m.Twin()
		for _, op := range operations(r, 40) {
			asked.State()
			asked.Stats()
			asked.Used()
			asked.Twin().Access(op.Key)
			if n := asked.Remove(1 << 50); n != api.RNone {
				t.Fatalf("Remove of what is nowhere: %d", n)
			}
			want := play(m, op)
			for i, like := range []*vm.Machine{asked, other} {
				if got := play(like, op); !same(got, want) {
					t.Fatalf("%s\n%v, %d: %v; want %v", tell(p), op, i, got, want)
				}
			}
			if r.Intn(5) == 0 {
				other = wantTwin(t, m, r)
			}
		}
	}
}
