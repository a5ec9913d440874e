package vm_test

import (
	"fmt"
	"math"
	"slices"
	"testing"

	"winnow/api"
	"winnow/vm"
)

// lru is chapter 17's.
func lru() api.Program {
	p := program("q0: move 0 0, end, miss: len 0, cap 0, eq, else E, evict 0 1, E: insert 0 0, end")
	return api.Program{Ghost: []bool{false}, On: p.On[:1], Miss: p.Miss, Code: p.Code}
}

func capsOf(size int, queues ...int) api.Caps { return api.Caps{Size: size, Queues: queues} }

// wantAccess wants an Access to answer that, and the fuel and the state behind it to be these.
func wantAccess(t *testing.T, m *vm.Machine, key uint64, answer string, used int, state string) {
	t.Helper()
	got := tellAnswer(m.Access(key))
	if got != answer || m.Used() != used || tellState(m.State()) != state {
		t.Errorf("%d: %s, %d, %s; want %s, %d, %s", key, got, m.Used(), tellState(m.State()), answer, used, state)
	}
}

func wantStats(t *testing.T, m *vm.Machine, want api.Stats) {
	t.Helper()
	if got := m.Stats(); got != want {
		t.Errorf("%v; want %v", got, want)
	}
}

func TestExamples(t *testing.T) {
	m := open(t, lru(), capsOf(2, 2))
	if m.Used() != 0 || m.Stats() != (api.Stats{}) || tellState(m.State()) != ";" {
		t.Errorf("at first: %d, %v, %v", m.Used(), m.Stats(), m.State())
	}
	wantAccess(t, m, 7, "miss", 6, "7 ;")
	wantAccess(t, m, 8, "miss", 6, "8 7 ;")
	wantAccess(t, m, 7, "hit", 2, "7 8 ;")
	wantAccess(t, m, 9, "miss 8", 7, "9 7 ;")
	wantStats(t, m, api.Stats{Hits: 1, Misses: 3, Evictions: 1})
	if a, b := m.Remove(9), m.Remove(9); a != api.RResident || b != api.RNone {
		t.Errorf("Remove: %d, %d", a, b)
	}
	wantStats(t, m, api.Stats{Hits: 1, Misses: 3, Evictions: 1, Removals: 1})
	wantAccess(t, m, 1, "miss", 6, "1 7 ;")

	p := lru()
	p.Code = append(p.Code[:2], program("insert 0 0, end").Code...)
	m = open(t, p, capsOf(2, 2))
	wantAccess(t, m, 7, "miss", 2, "7 ;")
	wantAccess(t, m, 8, "miss", 2, "8 7 ;")
	wantAccess(t, m, 9, "full", 1, "8 7 ;")
	wantStats(t, m, api.Stats{Misses: 2})
}

func wantRefused(t *testing.T, p api.Program, c api.Caps, want api.Errno) {
	t.Helper()
	if m, err := vm.New(p, c); m != nil || err != want {
		t.Errorf("%.300s\n%v: %v; want %v", tell(p), c, err, want)
	}
}

// What verify does not take is refused with its error, whatever the capacities are.
func TestP1701Programs(t *testing.T) {
	great := "loop 4194304, A: turn D, loop 4194304, B: turn C, loop 4194304, G: turn H, again G, H: again B, C: again A, D: end"
	for text, want := range map[string]api.Errno{
		"jump 0":                  api.ErrJump,
		"end, end":                api.ErrDead,
		"take 0 0, end":           api.ErrHand,
		"num 1, end":              api.ErrStack,
		"bool 1, num 1, eq, end":  api.ErrMix,
		"move 1 0, end":           api.ErrOperand,
		"insert 4 0, end":         api.ErrOperand,
		"insert 0 0":              api.ErrEnd,
		"num 1073741825, set 0":   api.ErrOperand,
		great:                     api.ErrFuel,
		"evict 1 0, end":          api.ErrOperand,
		"spill 0 0 2 0, end":      api.ErrOperand,
		"take 0 0, give 1 0, end": api.ErrHand,
	} {
		for _, c := range []api.Caps{usual(), capsOf(0), capsOf(4, 5, 1, 1, 1)} {
			wantRefused(t, program(text), c, want)
		}
	}
	p := program("end")
	p.Code[0].Op = api.ICount
	wantRefused(t, p, usual(), api.ErrOp)
	p = program("end")
	p.Tags[0] = 256
	wantRefused(t, p, usual(), api.ErrProg)
	wantRefused(t, api.Program{}, capsOf(1), api.ErrProg)
	p = program("end")
	p.On = p.On[:3]
	wantRefused(t, p, usual(), api.ErrProg)
}

// Which capacities fit: W4.
func TestP1701Caps(t *testing.T) {
	const most = 1 << 20
	for _, c := range []struct {
		kinds string // r: resident, g: a ghost
		caps  api.Caps
		fit   bool
	}{
		{"", capsOf(1), true}, {"", capsOf(most), true}, {"", capsOf(0), false}, {"", capsOf(-1), false}, {"", capsOf(most + 1), false}, {"", capsOf(math.MaxInt), false}, {"", capsOf(math.MinInt), false},
		{"", capsOf(1, 1), false}, {"r", capsOf(2, 1, 1), false}, {"r", capsOf(2), false}, {"rg", capsOf(2, 2), false}, {"rg", capsOf(2, 2, 2, 2), false},
		{"r", capsOf(2, 2), true}, {"r", capsOf(2, 1), true}, {"r", capsOf(2, 3), false}, {"r", capsOf(0, 1), false}, {"r", capsOf(2, 0), false}, {"r", capsOf(2, -1), false}, {"r", capsOf(2, math.MinInt), false}, {"r", capsOf(2, math.MaxInt), false},
		{"rr", capsOf(3, 2, 3), true}, {"rr", capsOf(3, 2, 4), false}, {"rr", capsOf(3, 4, 2), false}, {"rr", capsOf(3, 2, 0), false}, {"r", capsOf(most, most), true}, {"r", capsOf(most, most+1), false}, {"r", capsOf(most+1, most), false},
		{"g", capsOf(1, 1), true}, {"g", capsOf(1, 9), true}, {"g", capsOf(1, most), true}, {"g", capsOf(1, most+1), false}, {"g", capsOf(1, 0), false}, {"g", capsOf(1, -5), false}, {"g", capsOf(1, math.MaxInt), false}, {"gg", capsOf(1, math.MaxInt, math.MaxInt), false},
		// All entries together: the lesser one of Size and the resident queues' sum counts.
		{"rggg", capsOf(most, most, most, most, most), true}, {"rgggg", capsOf(most, most, most, most, most, 1), false}, {"rgggg", capsOf(most, most, most, most, most-1, 1), true},
		{"rgggg", capsOf(most, 1, most, most, most, most-1), true}, {"rgggg", capsOf(most, 1, most, most, most, most), false}, {"rgggg", capsOf(most, 2, most, most, most, most-1), false},
		{"rrgggg", capsOf(5, 5, 5, most, most, most, most-5), true}, {"rrgggg", capsOf(5, 5, 5, most, most, most, most-4), false}, {"gggg", capsOf(1, most, most, most, most), true}, {"ggggg", capsOf(1, most, most, most, most, 1), false},
		{"rrrrrrrrrrrrrrrr", capsOf(most, slices.Repeat([]int{most}, 16)...), true}, {"gggggggggggggggg", capsOf(1, slices.Repeat([]int{most / 4}, 16)...), true}, {"gggggggggggggggr", capsOf(1, append(slices.Repeat([]int{most / 4}, 15), 1)...), true},
	} {
		p := api.Program{Miss: -1}
		for _, kind := range c.kinds {
			p.Ghost, p.On = append(p.Ghost, kind == 'g'), append(p.On, -1)
		}
		if !c.fit {
			wantRefused(t, p, c.caps, api.ErrCaps)
			continue
		}
		m := open(t, p, c.caps)
		if s := m.State(); len(s.Queues) != len(c.kinds) || len(s.Vars) != 0 || m.Used() != 0 || m.Stats() != (api.Stats{}) {
			t.Errorf("%s, %v: %v", c.kinds, c.caps, s)
		}
	}
}

// The empty state has each var's initial number.
func TestP1701Empty(t *testing.T) {
	p := program("end")
	p.Vars = []api.Var{{Init: 7, Lo: -9, Hi: 9}, {Init: -api.MaxNum, Lo: -api.MaxNum}, {Init: api.MaxNum, Lo: 1, Hi: api.MaxNum}, {Init: -3, Lo: -3, Hi: -3}}
	if m := open(t, p, usual()); tellState(m.State()) != "/ / / ; 7 -1073741824 1073741824 -3" || len(m.State().Queues) != 4 {
		t.Errorf("%v", m.State())
	}
	p.Vars = slices.Repeat([]api.Var{{Init: 3, Hi: 4}}, api.MaxVars)
	if m := open(t, p, usual()); len(m.State().Vars) != 16 || slices.Max(m.State().Vars) != 3 || slices.Min(m.State().Vars) != 3 {
		t.Errorf("%v", m.State())
	}
}

// Where there is no event nothing is done; a hit is one all the same.
func TestP1702NoEvent(t *testing.T) {
	m := open(t, api.Program{Miss: -1}, capsOf(1))
	wantAccess(t, m, 7, "miss", 0, ";")
	wantStats(t, m, api.Stats{Misses: 1})
	m = open(t, program("miss: len 0, num 1, eq, else A, insert 1 0, end, A: insert 0 0, end"), capsOf(1, 1, 1, 1, 1))
	wantAccess(t, m, 7, "miss", 6, "7 / / / ; 0 5")
	wantAccess(t, m, 8, "miss", 6, "7 / 8 / / ; 0 5")
	wantAccess(t, m, 7, "hit", 0, "7 / 8 / / ; 0 5")
	wantAccess(t, m, 9, "full", 5, "7 / 8 / / ; 0 5")
	wantAccess(t, m, 8, "miss", 0, "7 / 8 / / ; 0 5")
	wantStats(t, m, api.Stats{Hits: 1, Misses: 3})
}

// Each event is that of the queue at which x is; events may begin at one place, or within one another's code.
func TestP1702Events(t *testing.T) {
	const enter = "miss: len 0, num 0, eq, else B, insert 0 0, end, B: len 1, num 0, eq, else C, insert 1 0, end, C: len 2, num 0, eq, else D, insert 2 0, end, D: len 3, num 0, eq, else E, insert 3 0, end, E: num 9, set 0, end"
	m := open(t, program(enter+", q0: num 1, set 0, end, q1: num 2, set 0, end, q2: num 3, set 0, end, q3: num 4, set 0, end"), capsOf(2, 1, 1, 1, 1))
	for key, used := range []int{6, 10, 14, 18} {
		if a := m.Access(uint64(key)); tellAnswer(a) != "miss" || m.Used() != used {
			t.Errorf("%d: %v, %d", key, a, m.Used())
		}
	}
	wantAccess(t, m, 0, "hit", 3, "0 / 1 / 2 / 3 ; 1 5")
	wantAccess(t, m, 1, "miss", 3, "0 / 1 / 2 / 3 ; 2 5")
	wantAccess(t, m, 2, "hit", 3, "0 / 1 / 2 / 3 ; 3 5")
	wantAccess(t, m, 3, "miss", 3, "0 / 1 / 2 / 3 ; 4 5")
	wantAccess(t, m, 4, "miss", 19, "0 / 1 / 2 / 3 ; 9 5")
	wantStats(t, m, api.Stats{Hits: 2, Misses: 7})

	m = open(t, program(enter+", q0: q3: num 7, set 1, q2: q1: var 0, num 1, add, set 0, end"), capsOf(2, 1, 1, 1, 1))
	for key := range uint64(4) {
		m.Access(key)
	}
	wantAccess(t, m, 1, "miss", 5, "0 / 1 / 2 / 3 ; 1 5")
	wantAccess(t, m, 2, "hit", 5, "0 / 1 / 2 / 3 ; 2 5")
	wantAccess(t, m, 3, "miss", 7, "0 / 1 / 2 / 3 ; 3 7")
	wantAccess(t, m, 0, "hit", 7, "0 / 1 / 2 / 3 ; 4 7")
}

func TestP1704(t *testing.T) {
	for _, c := range []struct {
		key   uint64
		want  int
		state string
	}{
		{1, api.RResident, "3 2 / 4 / / ; 0 5"}, {2, api.RResident, "3 1 / 4 / / ; 0 5"}, {3, api.RResident, "2 1 / 4 / / ; 0 5"}, {4, api.RGhost, "3 2 1 / / / ; 0 5"},
		{9, api.RNone, base}, {0, api.RNone, base}, {math.MaxUint64, api.RNone, base},
	} {
		m := tried(t, 4, "insert 0 0")
		stats, used := m.Stats(), m.Used()
		if got := m.Remove(c.key); got != c.want || tellState(m.State()) != c.state || m.Used() != used {
			t.Errorf("%d: %d, %s, %d; want %d, %s, %d", c.key, got, tellState(m.State()), m.Used(), c.want, c.state, used)
		}
		if c.want != api.RNone {
			stats.Removals++
		}
		wantStats(t, m, stats)
		if got := m.Remove(c.key); got != api.RNone || tellState(m.State()) != c.state {
			t.Errorf("%d again: %d, %s", c.key, got, tellState(m.State()))
		}
		wantStats(t, m, stats)
		// What was removed is nowhere: it may be inserted, with new tags, where it left room.
		want := c.state
		if c.want == api.RResident {
			m.Access(c.key)
			want = fmt.Sprint(c.key, " ", c.state)
		}
		if got := tellState(m.State()); got != want {
			t.Errorf("%d: %s; want %s", c.key, got, want)
		}
	}
}

// A trap undoes its own operation, and not the Remove ahead of it.
func TestP1704BehindTraps(t *testing.T) {
	m := tried(t, 4, "num 3, markend 0 0 1, evict 0 1, evict 2 0")
	wantAccess(t, m, 2, "empty", 4, base)
	if m.Remove(2) != api.RResident {
		t.Error("2 is resident")
	}
	wantAccess(t, m, 3, "empty", 4, "3 1 / 4 / / ; 0 5")
	wantStats(t, m, api.Stats{Misses: 4, Removals: 1})
}

func TestP1705Twin(t *testing.T) {
	m := tried(t, 4, "num 2, markx 1, move 0 0")
	m.Access(2)
	m.Remove(3)
	other := m.Twin()
	for _, x := range []*vm.Machine{m, other, other.Twin()} {
		if tellState(x.State()) != "2:[0,2] 1 / 4 / / ; 0 5" || x.Used() != 4 || x.Stats() != (api.Stats{Hits: 1, Misses: 4, Removals: 1}) {
			t.Errorf("%s, %d, %v", tellState(x.State()), x.Used(), x.Stats())
		}
	}
	wantAccess(t, other, 1, "hit", 4, "1:[0,2] 2:[0,2] / 4 / / ; 0 5")
	wantAccess(t, m, 5, "miss", 6, "5 2:[0,2] 1 / 4 / / ; 0 5")
	if other.Remove(5) != api.RNone || other.Remove(1) != api.RResident {
		t.Errorf("a twin has %v", other.State())
	}
	wantAccess(t, m, 1, "hit", 4, "1:[0,2] 5 2:[0,2] / 4 / / ; 0 5")
	if m.Stats() != (api.Stats{Hits: 2, Misses: 5, Removals: 1}) || other.Stats() != (api.Stats{Hits: 2, Misses: 4, Removals: 2}) || other.Used() != 4 {
		t.Errorf("%v, %v, %d", m.Stats(), other.Stats(), other.Used())
	}
}
