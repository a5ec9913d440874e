package verify_test

import (
	"math"
	"math/rand"
	"slices"
	"testing"

	"winnow/api"
	"winnow/code"
)

func TestChance(t *testing.T) {
	met, long, deep := map[int]int{}, 0, 0
	for seed := range int64(6000) {
		p, _, _ := woven(seed)
		j := holds(t, p)
		if j.fault != (api.Fault{}) {
			t.Fatalf("%s\n%v", tell(p), j.fault)
		}
		for _, i := range p.Code {
			met[i.Op]++
		}
		long += len(p.Code)
		deep = max(deep, slices.Max(j.heights))
	}
	for op, e := range table {
		if met[op] < 300 {
			t.Errorf("%s: %d times", e.name, met[op])
		}
	}
	if long < 100000 || deep < 10 {
		t.Errorf("%d instructions, %d operands", long, deep)
	}
}

// spoil changes a little of a program that is taken; most often it may be written even so.
func spoil(r *rand.Rand, p *api.Program) {
	at, other := r.Intn(len(p.Code)), r.Intn(len(p.Code))
	i := &p.Code[at]
	switch r.Intn(10) {
	case 0:
		i.Op = r.Intn(api.ICount)
	case 1:
		*i = p.Code[other]
	case 2:
		i.A = r.Intn(len(p.Code))
	case 3:
		i.A += 1 - 2*r.Intn(2)
	case 4:
		*i, p.Code[other] = p.Code[other], *i
	case 5:
		p.Code = slices.Delete(p.Code, at, at+1)
	case 6:
		p.Code = slices.Insert(p.Code, at, p.Code[other])
	case 7:
		q := r.Intn(len(p.Ghost))
		p.Ghost[q] = !p.Ghost[q]
	case 8:
		p.On[r.Intn(len(p.On))] = r.Intn(len(p.Code)+1) - 1
	case 9:
		*i = api.Instr{Op: []int{api.IBool, api.INum, api.IEnd, api.IForget, api.ITell, api.ILoose, api.IEq, api.INot}[r.Intn(8)]}
	}
}

func TestChanceSpoilt(t *testing.T) {
	got := map[api.Errno]int{}
	for seed := range int64(4000) {
		p, _, w := woven(seed)
		for range 12 {
			q := code.Twin(p)
			for range 1 + w.Intn(2) {
				spoil(w.Rand, &q)
				if len(q.Code) == 0 {
					break
				}
				got[holds(t, q).fault.Err]++
			}
		}
	}
	for _, err := range []api.Errno{api.OK, api.ErrProg, api.ErrOperand, api.ErrDead, api.ErrHand, api.ErrStack, api.ErrMix, api.ErrJump, api.ErrEnd} {
		if got[err] < 200 {
			t.Errorf("%v: %d times", err, got[err])
		}
	}
}

// playedBy has machines of a program do operations by chance, from some state on, and counts what they meet.
func playedBy(t *testing.T, p api.Program, c api.Caps, r *rand.Rand, traps map[api.Trap]int, met map[int]int) {
	t.Helper()
	m := newMachine(p, c, answers(t, p))
	keys := 2 + r.Intn(12)
	for n := range 30 {
		if n%10 == 0 {
			m = newMachine(p, c, m.j)
			m.met = met
			m.fill(r, keys)
		}
		m.key = uint64(r.Intn(keys))
		if q, n := m.find(); q >= 0 && r.Intn(12) == 0 {
			m.out(q, n)
			continue
		}
		traps[m.access(t, m.key)]++
	}
}

// What is taken, whatever its origin, is never without what it asks for.
func TestP1604(t *testing.T) {
	traps, met := map[api.Trap]int{}, map[int]int{}
	for seed := range int64(4000) {
		p, c, w := woven(seed + 10000)
		for range 3 {
			if answers(t, p).fault == (api.Fault{}) {
				playedBy(t, p, c, w.Rand, traps, met)
			}
			p = code.Twin(p)
			spoil(w.Rand, &p)
			if len(p.Code) == 0 {
				break
			}
		}
	}
	for op, e := range table {
		if met[op] < 300 {
			t.Errorf("%s was done %d times", e.name, met[op])
		}
	}
	if traps[api.TNone] < 20000 || traps[api.TFull] < 300 || traps[api.TEmpty] < 1000 || traps[api.TWhere] < 1000 {
		t.Errorf("what was met: %v", traps)
	}
}

// A machine that takes all rounds takes all the fuel that is told.
func TestP1604NoLess(t *testing.T) {
	for _, text := range []string{
		"forget, end",
		"loop 3, T: turn E, bool 1, quit E, again T, E: end",
		"loop 3, A: turn D, loop 4, B: turn C, bool 1, quit C, num 1, set 0, again B, C: again A, D: end",
		"loop 3, T: turn E, jump B, E: end, B: bool 1, else C, size, set 0, C: again T",
		"bool 0, else B, end, B: loop 2, T: turn E, again T, E: end",
	} {
		p := program("miss: insert 1 0, " + text)
		m := newMachine(p, api.Caps{Size: 2, Queues: []int{1, 1, 1, 1}}, answers(t, p))
		if trap := m.access(t, 7); trap != api.TNone || m.used != m.j.costs.Miss {
			t.Errorf("%s: %d; want %d, %v", text, m.used, m.j.costs.Miss, trap)
		}
	}
}

// renumbered has other numbers in INum and IBool, and, if it is told so, in ILoop.
func renumbered(r *rand.Rand, p api.Program, loops bool) api.Program {
	p = code.Twin(p)
	for at := range p.Code {
		switch i := &p.Code[at]; {
		case i.Op == api.INum:
			i.A = []int{0, 1, -1, api.MaxNum, -api.MaxNum, r.Intn(1000)}[r.Intn(6)]
		case i.Op == api.IBool:
			i.A = r.Intn(2)
		case i.Op == api.ILoop && loops:
			i.A = []int{0, r.Intn(1000), api.MaxLoop, api.MaxLoop, api.MaxLoop, api.MaxLoop}[r.Intn(6)]
		}
	}
	return p
}

func TestP1606(t *testing.T) {
	got, fuel := map[api.Errno]int{}, 0
	for seed := range int64(4000) {
		p, _, w := woven(seed + 20000)
		if seed%2 == 0 {
			spoil(w.Rand, &p)
		}
		if len(p.Code) == 0 || code.Check(p) != api.OK {
			continue
		}
		j := answers(t, p)
		got[j.fault.Err]++
		want(t, renumbered(w.Rand, p, false), j)
		other := answers(t, renumbered(w.Rand, p, true))
		if other.fault.Err == api.ErrFuel {
			fuel++
			other.fault, other.heights = api.Fault{}, j.heights
		}
		if other.fault != j.fault || !slices.Equal(other.heights, j.heights) {
			t.Fatalf("%s\n%v; with other rounds %v", tell(p), j, other)
		}
		for q, at := range p.On {
			if j.fault == (api.Fault{}) && at >= 0 && (at == p.Miss && j.costs.On[q] != j.costs.Miss || j.costs.On[q] != j.costs.On[slices.Index(p.On, at)]) {
				t.Fatalf("%s\n%v", tell(p), j.costs)
			}
		}
	}
	if got[api.OK] < 2000 || got[api.ErrMix] < 100 || got[api.ErrJump] < 100 || fuel < 3 {
		t.Errorf("%v, %d of fuel", got, fuel)
	}
}

func TestP1606OnePlace(t *testing.T) {
	taken(t, "q0: q1: q2: q3: miss: loop 5, T: turn E, again T, E: end", "13 13 13 13 13")
	taken(t, "q0: q2: forget, q1: q3: miss: forget, end", "3 2 3 2 2")
}

func wild(r *rand.Rand) int {
	return []int{math.MinInt, math.MaxInt, -1, 0, 1, 2, 3, 255, 256, -api.MaxNum - 1, api.MaxLoop + 1, r.Intn(50), int(r.Uint64())}[r.Intn(13)]
}

// Any data (P1).
func TestP1AnyProgram(t *testing.T) {
	for seed := range int64(6000) {
		r := rand.New(rand.NewSource(seed))
		p := api.Program{Ghost: make([]bool, r.Intn(20)), Vars: make([]api.Var, r.Intn(20)), Tags: make([]int, r.Intn(7)), On: make([]int, r.Intn(20)), Miss: wild(r), Code: make([]api.Instr, r.Intn(20))}
		for i := range p.Tags {
			p.Tags[i] = wild(r)
		}
		for i := range p.On {
			p.On[i] = wild(r)
		}
		for i := range p.Code {
			p.Code[i] = api.Instr{Op: wild(r), A: wild(r), B: wild(r), C: wild(r), D: wild(r)}
		}
		holds(t, p)
	}
}

// Any instructions, each as it may be.
func TestChanceCode(t *testing.T) {
	var pool []api.Instr
	for seed := range int64(100) {
		p, _, _ := woven(seed)
		pool = append(pool, p.Code...)
	}
	for seed := range int64(60000) {
		r := rand.New(rand.NewSource(seed))
		p := program("end")
		p.Code = make([]api.Instr, 1+r.Intn(12))
		for at := range p.Code {
			i := pool[r.Intn(len(pool))]
			if i.Op >= api.IJump && i.Op <= api.IAgain && i.Op != api.ILoop {
				i.A = r.Intn(len(p.Code))
			}
			p.Code[at] = i
		}
		holds(t, p)
	}
}
