package vm_test

import (
	"fmt"
	"math/rand"
	"slices"
	"strings"
	"testing"

	"winnow/api"
	"winnow/code"
	"winnow/verify"
)

// spoil changes a little of a program that is taken; most often it is not taken any more.
func spoil(r *rand.Rand, p *api.Program) {
	at, other := r.Intn(len(p.Code)), r.Intn(len(p.Code))
	i := &p.Code[at]
	switch r.Intn(10) {
	case 0:
		i.Op = r.Intn(api.ICount)
	case 1:
		*i = p.Code[other]
	case 2:
		i.A = r.Intn(len(p.Code))
	case 3:
		i.A += 1 - 2*r.Intn(2)
	case 4:
		*i, p.Code[other] = p.Code[other], *i
	case 5:
		p.Code = slices.Delete(p.Code, at, at+1)
	case 6:
		p.Code = slices.Insert(p.Code, at, p.Code[other])
	case 7:
		q := r.Intn(len(p.Ghost))
		p.Ghost[q] = !p.Ghost[q]
	case 8:
		p.On[r.Intn(len(p.On))] = r.Intn(len(p.Code)+1) - 1
	case 9:
		*i = api.Instr{Op: []int{api.IBool, api.INum, api.IEnd, api.IForget, api.ITell, api.ILoose, api.IEq, api.INot}[r.Intn(8)]}
	}
}

// chance is a program that is taken, whatever its origin, and capacities that fit it.
func chance(t *testing.T, seed int64) (api.Program, api.Caps, *rand.Rand) {
	t.Helper()
	p, c, w := woven(seed)
	if _, fault := verify.Run(p); fault != (api.Fault{}) {
		t.Fatalf("%s\n%v", tell(p), fault)
	}
	for range 6 {
		other := code.Twin(p)
		spoil(w.Rand, &other)
		if _, fault := verify.Run(other); fault == (api.Fault{}) {
			p = other
		}
		if len(p.Code) == 0 {
			break
		}
	}
	return p, c, w.Rand
}

// Programs by chance, against absm (P1801), and how their nodes lie (P1802 to P1804).
func TestChance(t *testing.T) {
	traps, met := map[api.Trap]int{}, [api.ICount]int{}
	var all api.Stats
	for seed := range int64(6000) {
		p, c, r := chance(t, seed)
		m := openBoth(t, p, c)
		m.Watch(func(_, op, _, _ int) { met[op]++ })
		for _, op := range operations(r, 40) {
			traps[m.play(t, op).answer.Trap]++
		}
		s := m.Stats()
		all = api.Stats{Hits: all.Hits + s.Hits, Misses: all.Misses + s.Misses, Evictions: all.Evictions + s.Evictions, Removals: all.Removals + s.Removals}
	}
	for op, e := range table {
		if met[op] < 500 {
			t.Errorf("%s was begun %d times", e.name, met[op])
		}
	}
	if traps[api.TNone] < 150000 || traps[api.TFull] < 3000 || traps[api.TEmpty] < 8000 || traps[api.TWhere] < 5000 || all.Hits < 15000 || all.Evictions < 2000 || all.Removals < 3000 {
		t.Errorf("what was met: %v, %v", traps, all)
	}
}

// filling is a miss that brings x in where few are; % is an end.
const filling = "miss: len 0, len 2, le, else B, insert 0 %, end, B: len 2, len 1, le, else C, insert 2 %, end, C: len 1, len 3, le, else D, insert 1 %, end, D: insert 3 %, end, "

func wide(r *rand.Rand) api.Caps {
	return capsOf(20+r.Intn(20), 10+r.Intn(10), 5+r.Intn(15), 10+r.Intn(10), 5+r.Intn(15))
}

// deep is a program whose queues hold many, and capacities: whatever the event, some instructions by chance are done, most of them with x.
func deep(r *rand.Rand) (api.Program, api.Caps) {
	texts := []string{"move 0 0", "move 0 1", "move 2 0", "move 2 1", "shift 0 0 0 1", "shift 0 1 0 0", "shift 2 0 2 1", "shift 2 1 0 0", "shift 0 0 2 1", "shift 1 0 3 1", "shift 3 1 1 0", "shift 1 0 1 1", "shift 3 0 3 1",
		"num %, markx 0", "num %, markx 1", "tagx 1, set 0", "tagx 0, var 0, add, markx 1", "num %, markend 0 0 1", "num %, markend 2 1 1", "tagend 0 1 1, set 0", "take 0 0, tagx 1, set 1, give 0 1", "take 2 1, num %, markx 1, give 2 0", "spill 0 1 1 0", "spill 2 1 3 0"}
	event := func(most int) string {
		text := ""
		for range 1 + r.Intn(most) {
			text += strings.ReplaceAll(texts[r.Intn(len(texts))], "%", fmt.Sprint(r.Intn(300))) + ", "
		}
		return text + "end, "
	}
	text := strings.ReplaceAll(filling, "%", fmt.Sprint(r.Intn(2)))
	for q := range 4 {
		text += fmt.Sprint("q", q, ": ", event(8))
	}
	return program(text), wide(r)
}

func TestChanceDeep(t *testing.T) {
	traps, most := map[api.Trap]int{}, 0
	for seed := range int64(800) {
		r := rand.New(rand.NewSource(seed))
		p, c := deep(r)
		m := openBoth(t, p, c)
		for range 120 {
			got := m.play(t, api.Op{Key: uint64(r.Intn(60)), Remove: r.Intn(20) == 0})
			traps[got.answer.Trap]++
			for _, list := range got.state.Queues {
				most = max(most, len(list))
			}
		}
	}
	if most < 16 || traps[api.TNone] < 50000 || traps[api.TFull] < 2500 || traps[api.TEmpty] < 750 || traps[api.TWhere] < 500 {
		t.Errorf("what was met: %v, %d in a queue", traps, most)
	}
}
