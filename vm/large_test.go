package vm_test

import (
	"container/list"
	"fmt"
	"math/rand"
	"slices"
	"strings"
	"sync"
	"testing"

	"winnow/api"
)

// As many keys as a queue holds, from either end, and out of it again.
func TestLargeQueues(t *testing.T) {
	for _, c := range []struct{ in, out, size int }{{0, 0, 1 << 17}, {0, 1, api.MaxCap}, {1, 0, 1 << 18}, {1, 1, 1 << 16}} {
		most := uint64(c.size)
		within(t, fmt.Sprint("in and out ", c), func() {
			m := open(t, program(fmt.Sprintf("miss: len 0, cap 0, eq, else E, evict 0 %d, E: insert 0 %d, end", c.out, c.in)), capsOf(c.size, c.size, 1, 1, 1))
			for key := range most {
				if a := m.Access(key); a.Hit || a.Trap != api.TNone || len(a.Evicted) > 0 {
					t.Fatalf("%d: %v", key, a)
				}
			}
			for key := range 3 * most / 2 {
				want := key
				if c.in == c.out {
					want = most + key - 1
				}
				if a := m.Access(most + key); len(a.Evicted) != 1 || a.Evicted[0] != want {
					t.Fatalf("%d: %v; want %d", most+key, a, want)
				}
			}
			first, last := 3*most/2, 5*most/2-1
			if c.in == c.out {
				first = 0
			}
			if c.in == api.Front {
				first, last = last, first
			}
			s := m.State().Queues[0]
			if len(s) != c.size || s[0].Key != first || s[most-1].Key != last {
				t.Errorf("%v: %d, from %d to %d; want %d to %d", c, len(s), s[0].Key, s[len(s)-1].Key, first, last)
			}
		})
	}
}

// An LRU of many keys, against one of the library's lists.
func TestLargeLru(t *testing.T) {
	const size = 3000
	m, r := open(t, lru(), capsOf(size, size)), rand.New(rand.NewSource(1))
	keys, where := list.New(), map[uint64]*list.Element{}
	within(t, "an LRU", func() {
		for range 60000 {
			key := uint64(r.Intn(1 + r.Intn(3*size)))
			a := m.Access(key)
			if e := where[key]; e != nil {
				keys.MoveToFront(e)
				if !a.Hit || len(a.Evicted) > 0 {
					t.Fatalf("%d: %v", key, a)
				}
				continue
			}
			var want []uint64
			if keys.Len() == size {
				last := keys.Remove(keys.Back()).(uint64)
				delete(where, last)
				want = []uint64{last}
			}
			where[key] = keys.PushFront(key)
			if a.Hit || !slices.Equal(a.Evicted, want) {
				t.Fatalf("%d: %v; want %v", key, a, want)
			}
		}
	})
	at := keys.Front()
	for _, e := range m.State().Queues[0] {
		if e.Key != at.Value.(uint64) {
			t.Fatalf("%d; want %d", e.Key, at.Value)
		}
		at = at.Next()
	}
	if at != nil {
		t.Error("there are too few")
	}
}

// Many entries, all of them changed, then a trap.
func TestLargeUndo(t *testing.T) {
	const n = 1 << 17
	for what, text := range map[string]string{
		"evicted": "loop 131072, T: turn E, evict 0 1, again T, E: evict 0 1",
		"spilt":   "loop 131072, T: turn E, num 3, markend 0 0 0, spill 0 0 1 1, again T, E: evict 0 1",
		"shifted": "loop 200000, T: turn E, num 2, markend 0 1 0, shift 0 1 0 0, again T, E: move 0 0, insert 0 0",
	} {
		within(t, what, func() {
			m := open(t, program("q0: "+text+", end, miss: insert 0 1, num 1, markx 1, end"), capsOf(n, n, n, 1, 1))
			for key := range uint64(n) {
				m.Access(key * key)
			}
			want, stats := m.State(), m.Stats()
			for _, key := range []uint64{0, n / 2 * n / 2, (n - 1) * (n - 1)} {
				if a := m.Access(key); a.Trap == api.TNone || a.Hit || len(a.Evicted) > 0 {
					t.Errorf("%s: %v, %v", what, a.Trap, a.Hit)
				}
				if !sameState(m.State(), want) || m.Stats() != stats {
					t.Fatalf("%s: the state is another one", what)
				}
			}
			if m.Remove(9) != api.RResident || m.Remove(10) != api.RNone || len(m.State().Queues[0]) != n-1 {
				t.Errorf("%s: Remove", what)
			}
		})
	}
}

// A key deep in a queue is asked for again and again.
func TestLargeDeep(t *testing.T) {
	const n = 1 << 17
	m := open(t, program("q0: loop 1000000, T: turn E, tagx 1, num 1, add, markx 1, shift 0 0 0 1, again T, E: end, miss: insert 0 1, end"), capsOf(n, n, 1, 1, 1))
	within(t, "a key", func() {
		for key := range uint64(n) {
			m.Access(key)
		}
		if a := m.Access(n / 2); !a.Hit || m.Used() != 1+7*1000000+1+1 {
			t.Errorf("%v, %d", a, m.Used())
		}
	})
	// Each round brings the front one to the back: so the front one is the rounds' number, round and round.
	s := m.State().Queues[0]
	first := 1000000 % n
	if s[0].Key != uint64(first) || s[(n/2-first+n)%n].Tags[1] != 255 || s[(n/2-first+n)%n].Key != n/2 {
		t.Errorf("%v", s[0])
	}
}

// As many instructions as may be, loops in one another, operands.
func TestLargeCode(t *testing.T) {
	const most = api.MaxCode
	p := program("end")
	run := func(what string, list []api.Instr, used int) {
		t.Helper()
		p.Code = list
		within(t, what, func() {
			m := open(t, p, usual())
			if a := m.Access(7); a.Trap != api.TNone || m.Used() != used || m.Twin().Used() != used {
				t.Errorf("%s: %v, %d; want %d", what, a, m.Used(), used)
			}
		})
	}
	end := api.Instr{Op: api.IEnd}
	run("doings", append(slices.Repeat(program("len 0, set 0").Code, (most-1)/2), end), most-1)
	var jumps, loops []api.Instr
	for at := range most - 1 {
		jumps = append(jumps, api.Instr{Op: api.IJump, A: at + 1})
	}
	run("jumps", append(jumps, end), most)
	n := (most - 1) / 3
	for at := range n {
		loops = append(loops, api.Instr{Op: api.ILoop, A: 1}, api.Instr{Op: api.ITurn, A: 3*n - at})
	}
	for at := n - 1; at >= 0; at-- {
		loops = append(loops, api.Instr{Op: api.IAgain, A: 2*at + 1})
	}
	// In each one ILoop, ITurn twice, IAgain.
	run("loops", append(loops, end), 4*n+1)
	text := strings.Repeat("num 3, ", 256) + strings.Repeat("sub, ", 255) + "set 0, end"
	run("operands", program(text).Code, 513)
}

// As many rounds as a loop may have.
func TestLargeRounds(t *testing.T) {
	m := open(t, program("miss: loop 4194304, T: turn E, var 1, num 1, add, set 1, again T, E: end"), usual())
	within(t, "rounds", func() {
		if a := m.Access(7); a.Trap != api.TNone || m.Used() != 1+6*4194304+1+1 || m.State().Vars[1] != 5+4194304 {
			t.Errorf("%v, %d, %v", a, m.Used(), m.State().Vars)
		}
	})
}

// Of a key near either end of a long queue a trap is undone without the rest of the queue being gone through.
func TestLargeNear(t *testing.T) {
	const n = 1 << 18
	m := open(t, program("q0: move 0 0, move 0 1, insert 0 0, end, miss: insert 0 1, end"), capsOf(n, n, 1, 1, 1))
	for key := range uint64(n) {
		m.Access(key)
	}
	within(t, "traps", func() {
		for round := range uint64(100000) {
			for _, key := range []uint64{round % 9, n - 1 - round%9} {
				if a := m.Access(key); a.Trap != api.TWhere {
					t.Fatalf("%d: %v", key, a)
				}
			}
		}
	})
	for at, e := range m.State().Queues[0] {
		if e.Key != uint64(at) {
			t.Fatalf("%d at %d", e.Key, at)
		}
	}
	wantLaid(t, m, []bool{false, true, false, true}, capsOf(n, n, 1, 1, 1))
}

// x goes to an end again and again, and others come between: what that takes to be undone grows as what was done.
func TestLargeBetween(t *testing.T) {
	const n = 1 << 16
	for _, text := range []string{
		"loop 1000, T: turn E, loop 1000, U: turn F, shift 0 1 0 0, again U, F: move 0 0, again T, E: insert 0 0",
		"loop 20, T: turn E, loop 50, U: turn F, shift 0 1 0 0, again U, F: move 0 0, again T, E: insert 0 0",
	} {
		m := open(t, program("q0: "+text+", end, miss: insert 0 1, end"), capsOf(n, n, 1, 1, 1))
		for key := range uint64(n) {
			m.Access(key)
		}
		want := m.State()
		within(t, text, func() {
			for _, key := range []uint64{n / 2, 0, n - 1} {
				if a := m.Access(key); a.Trap != api.TWhere || !sameState(m.State(), want) {
					t.Fatalf("%s, of %d: %v", text, key, a.Trap)
				}
			}
		})
	}
}

// As many queues, vars and tags as there may be.
func TestLargeTables(t *testing.T) {
	p := api.Program{Miss: 0, Vars: slices.Repeat([]api.Var{{Hi: 99}}, api.MaxVars), Tags: []int{1, 3, 255, 7}}
	add := func(text string) { p.Code = append(p.Code, program(text).Code...) }
	add("insert 0 1, end")
	for q := range api.MaxQueues {
		p.Ghost, p.On = append(p.Ghost, q%2 == 1), append(p.On, len(p.Code))
		add(fmt.Sprintf("tagx %d, num %d, add, markx %d, tagx %d, var %d, add, set %d", q%4, q, q%4, q%4, q, q))
		switch {
		case q == api.MaxQueues-1:
			add("forget, end")
		case q%2 == 1:
			add(fmt.Sprintf("move %d 0, end", q+1))
		default:
			add(fmt.Sprintf("spill %d 0 %d 1, end", q, q+1))
		}
	}
	m := openBoth(t, p, api.Caps{Size: 5, Queues: []int{5, 2, 4, 3, 3, 1, 1, 4, 2, 3, 5, 2, 1, 1, 3, 2}})
	r := rand.New(rand.NewSource(3))
	traps, met := 0, map[int]bool{}
	for n := range 6000 {
		out := m.play(t, api.Op{Key: uint64(r.Intn(3 + n/300)), Remove: r.Intn(50) == 0})
		if out.answer.Trap != api.TNone {
			traps++
		}
		for q, list := range out.state.Queues {
			met[q] = met[q] || len(list) > 0
		}
	}
	if traps < 100 || len(met) != api.MaxQueues || !met[15] || !met[14] {
		t.Errorf("%d traps, %v", traps, met)
	}
}

// Many twins at once: they share what no operation changes, and nothing else.
func TestTwinsAtOnce(t *testing.T) {
	p, c, r := chance(t, 7)
	first := open(t, p, c)
	list := operations(r, 200)
	want := make([]told, len(list))
	other := first.Twin()
	for i, op := range list {
		want[i] = play(other, op)
	}
	var group sync.WaitGroup
	wrong := make([]bool, 8)
	for n := range wrong {
		m := first.Twin()
		group.Go(func() {
			for i, op := range list {
				wrong[n] = wrong[n] || !same(play(m, op), want[i])
			}
		})
	}
	group.Wait()
	if slices.Contains(wrong, true) {
		t.Errorf("%v", wrong)
	}
}
