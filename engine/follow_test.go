package engine_test

import (
	"fmt"
	"math/rand"
	"slices"
	"testing"

	"winnow/absm"
	"winnow/api"
	"winnow/code"
	"winnow/deno"
	"winnow/engine"
	"winnow/fold"
	"winnow/gen"
	"winnow/rule"
	"winnow/verify"
	"winnow/vm"
)

// machine is what does operations: an engine, or one of the machines that it has to be like.
type machine interface {
	Access(key uint64) api.Answer
	Remove(key uint64) int
	State() api.State
	Stats() api.Stats
}

// told is what an operation answered, and what it left behind.
type told struct {
	api.Told
	state api.State
	stats api.Stats
}

func play(m machine, op api.Op) told {
	var x told
	if op.Remove {
		x.Was = m.Remove(op.Key)
	} else {
		x.Answer = m.Access(op.Key)
	}
	x.state, x.stats = m.State(), m.Stats()
	return x
}

func sameTold(x, y api.Told) bool {
	return x.Hit == y.Hit && x.Trap == y.Trap && x.Was == y.Was && slices.Equal(x.Evicted, y.Evicted)
}

func sameTrace(x, y []api.Told) bool { return slices.EqualFunc(x, y, sameTold) }

func sameEntry(x, y api.Entry) bool { return x.Key == y.Key && slices.Equal(x.Tags, y.Tags) }

func sameQueue(x, y []api.Entry) bool { return slices.EqualFunc(x, y, sameEntry) }

func sameState(x, y api.State) bool {
	return slices.Equal(x.Vars, y.Vars) && slices.EqualFunc(x.Queues, y.Queues, sameQueue)
}

func sameLayout(x, y api.Layout) bool {
	return slices.EqualFunc(x.Lists, y.Lists, slices.Equal[[]int]) && slices.Equal(x.Free, y.Free) && slices.Equal(x.Keys, y.Keys) && slices.Equal(x.Nodes, y.Nodes)
}

func same(x, y told) bool {
	return sameTold(x.Told, y.Told) && sameState(x.state, y.state) && x.stats == y.stats
}

// made is a text by chance that loads, under capacities.
type made struct {
	text string
	c    api.Caps
	p    api.Policy
	u    api.Typed
	*maker
}

// chance is the first text that loads, of those that the seed gives.
func chance(t *testing.T, seed int64) made {
	t.Helper()
	r := rand.New(rand.NewSource(seed))
	for {
		m := newMaker(r.Int63(), 1)
		p, text := m.policy()
		c := m.caps(p.Queues)
		if p, u, fault := plainLoad(text, c); fault == (api.Fault{}) {
			return made{text, c, p, u, m}
		}
	}
}

// operations are Accesses and some Removes, by chance.
func operations(r *rand.Rand, n int) []api.Op {
	list := make([]api.Op, n)
	keys := 2 + r.Intn(12)
	for i := range list {
		list[i] = api.Op{Key: uint64(r.Intn(keys)), Remove: r.Intn(12) == 0}
	}
	return list
}

// meaning is what the text means (chapter 11).
func (d made) meaning(t *testing.T) *deno.Machine {
	t.Helper()
	m, err := deno.New(d.p, d.u, d.c)
	if err != api.OK {
		t.Fatalf("%s\n%v: %v", d.text, d.c, err)
	}
	return m
}

// An engine does what its text means, and nothing traps.
func TestP2005(t *testing.T) {
	var all api.Stats
	for seed := range int64(1000) {
		d := chance(t, seed)
		e, m := load(t, d.text, d.c), d.meaning(t)
		for n, op := range operations(d.Rand, 60) {
			got, want := play(e, op), play(m, op)
			if !same(got, want) || got.Trap != api.TNone {
				t.Fatalf("%s\n%v, operation %d, %v:\n%v; want\n%v", d.text, d.c, n, op, got, want)
			}
		}
		s := e.Stats()
		all = api.Stats{Hits: all.Hits + s.Hits, Misses: all.Misses + s.Misses, Evictions: all.Evictions + s.Evictions, Removals: all.Removals + s.Removals}
	}
	if all.Hits < 5000 || all.Misses < 5000 || all.Evictions < 1000 || all.Removals < 600 {
		t.Errorf("what was met: %v", all)
	}
}

// residents are the keys of a state that are.
func residents(p api.Policy, s api.State) []uint64 {
	var list []uint64
	for q, entries := range s.Queues {
		for _, e := range entries {
			if !p.Queues[q].Ghost {
				list = append(list, e.Key)
			}
		}
	}
	slices.Sort(list)
	return list
}

// wantSound wants a state to be one that may be (W5).
func wantSound(t *testing.T, d made, s api.State) {
	t.Helper()
	right := len(s.Queues) == len(d.c.Queues) && len(s.Vars) == len(d.u.Vars) && len(residents(d.p, s)) <= d.c.Size
	often := map[uint64]int{}
	for q, entries := range s.Queues {
		right = right && len(entries) <= d.c.Queues[q]
		for _, e := range entries {
			often[e.Key]++
			right = right && often[e.Key] == 1 && len(e.Tags) == len(d.u.Tags)
			for i, n := range e.Tags {
				right = right && 0 <= n && n <= d.u.Tags[i]
			}
		}
	}
	for i, n := range s.Vars {
		right = right && d.u.Vars[i].Lo <= n && n <= d.u.Vars[i].Hi
	}
	if !right {
		t.Fatalf("%s\n%v: %v", d.text, d.c, s)
	}
}

// The resident keys are those ahead of an operation, without those that were told or removed, and perhaps x.
func TestT3(t *testing.T) {
	for seed := range int64(500) {
		d := chance(t, seed+10000)
		e := load(t, d.text, d.c)
		wantSound(t, d, e.State())
		for _, op := range operations(d.Rand, 60) {
			was := residents(d.p, e.State())
			got := play(e, op)
			wantSound(t, d, got.state)
			gone := func(key uint64) bool {
				return slices.Contains(got.Evicted, key) || op.Remove && key == op.Key
			}
			kept, now := slices.DeleteFunc(was, gone), residents(d.p, got.state)
			if !op.Remove {
				is := func(key uint64) bool { return key == op.Key }
				kept, now = slices.DeleteFunc(kept, is), slices.DeleteFunc(now, is)
			}
			if !slices.Equal(kept, now) || got.Trap != api.TNone {
				t.Fatalf("%s\n%v: %v; resident were %v, are %v", d.text, op, got, kept, now)
			}
		}
	}
}

// Program is what the layers make of the policy, and the engine is a vm of it; so it takes no more fuel than verify says (T6), and as much as absm.
func TestP2002Chance(t *testing.T) {
	for seed := range int64(600) {
		d := chance(t, seed+20000)
		e := load(t, d.text, d.c)
		program := e.Program()
		plan, err := rule.Lower(d.p, d.u, d.c)
		folded, wrong := fold.Run(plan)
		made, bad := gen.Make(folded)
		bytes, no := code.Encode(made)
		want, fault := code.Decode(bytes)
		if err != api.OK || wrong != api.OK || bad != api.OK || no != api.OK || fault != (api.Fault{}) || !code.Same(program, want) {
			t.Fatalf("%s\n%v; want %v", d.text, program, want)
		}
		costs, fault := verify.Run(program)
		m, bad := vm.New(program, d.c)
		a, no := absm.New(program, d.c)
		if fault != (api.Fault{}) || bad != api.OK || no != api.OK {
			t.Fatalf("%s\n%v: %v, %v, %v", d.text, program, fault, bad, no)
		}
		most := slices.Max(append(slices.Clone(costs.On), costs.Miss))
		for _, op := range operations(d.Rand, 40) {
			got, want := play(e, op), play(m, op)
			if !same(got, want) || !same(play(a, op), want) || !sameLayout(e.Layout(), m.Layout()) {
				t.Fatalf("%s\n%v: %v; want %v", d.text, op, got, want)
			}
			if m.Used() != a.Used() || m.Used() > most {
				t.Fatalf("%s\n%v: fuel %d, %d; at most %d", d.text, op, m.Used(), a.Used(), most)
			}
		}
	}
}

// wantLists wants each node to be free or in one list, and the index to have just the keys that stand there (T10).
func wantLists(t *testing.T, d made, e *engine.Engine) {
	t.Helper()
	x, s := e.Layout(), e.State()
	residents, ghosts := 0, 0
	for q, n := range d.c.Queues {
		if d.p.Queues[q].Ghost {
			ghosts += n
		} else {
			residents += n
		}
	}
	all := slices.Clone(x.Free)
	nodes := map[uint64]int{}
	for q, list := range x.Lists {
		all = append(all, list...)
		if len(list) != len(s.Queues[q]) {
			t.Fatalf("%s\n%v: %v", d.text, x, s)
		}
		for k, node := range list {
			nodes[s.Queues[q][k].Key] = node
		}
	}
	slices.Sort(all)
	for i, node := range all {
		if i != node {
			t.Fatalf("%s\n%v", d.text, x)
		}
	}
	if len(all) != min(d.c.Size, residents)+ghosts || !slices.IsSorted(x.Free) || len(x.Keys) != len(nodes) || len(x.Nodes) != len(nodes) || !slices.IsSorted(x.Keys) {
		t.Fatalf("%s\n%v: %v", d.text, d.c, x)
	}
	for i, key := range x.Keys {
		if node, is := nodes[key]; !is || node != x.Nodes[i] {
			t.Fatalf("%s\n%v: %v", d.text, x, s)
		}
	}
}

func TestT10(t *testing.T) {
	for seed := range int64(300) {
		d := chance(t, seed+30000)
		e := load(t, d.text, d.c)
		wantLists(t, d, e)
		for _, op := range operations(d.Rand, 50) {
			e.Play([]api.Op{op})
			wantLists(t, d, e)
			wantLists(t, d, e.Twin())
		}
	}
}

// Play answers what the operations do one by one, however it is cut.
func TestP2003Chance(t *testing.T) {
	for seed := range int64(300) {
		d := chance(t, seed+40000)
		e, other, parts := load(t, d.text, d.c), load(t, d.text, d.c), load(t, d.text, d.c)
		list := operations(d.Rand, 60)
		var want, cut []api.Told
		for _, op := range list {
			want = append(want, play(other, op).Told)
		}
		for left := list; len(left) > 0; {
			n := 1 + d.Intn(len(left))
			cut = append(cut, parts.Play(left[:n])...)
			left = left[n:]
		}
		if got := e.Play(list); !sameTrace(got, want) || !sameTrace(cut, want) {
			t.Fatalf("%s\n%v: %v, %v; want %v", d.text, list, got, cut, want)
		}
		for _, x := range []*engine.Engine{e, parts} {
			if !sameState(x.State(), other.State()) || x.Stats() != other.Stats() || !sameLayout(x.Layout(), other.Layout()) {
				t.Fatalf("%s\n%v: %v; want %v", d.text, list, x.State(), other.State())
			}
		}
		for i, op := range list {
			if op.Remove && (want[i].Hit || want[i].Evicted != nil || want[i].Trap != api.TNone) || !op.Remove && want[i].Was != 0 {
				t.Fatalf("%s\n%v: %v", d.text, op, want[i])
			}
		}
	}
}

// A twin is alike, and apart.
func TestP2002TwinChance(t *testing.T) {
	for seed := range int64(300) {
		d := chance(t, seed+50000)
		e := load(t, d.text, d.c)
		for range 4 {
			e.Play(operations(d.Rand, 20))
			twin, still := e.Twin(), fmt.Sprint(e.State(), e.Stats(), e.Layout())
			if fmt.Sprint(twin.State(), twin.Stats(), twin.Layout()) != still || !code.Same(twin.Program(), e.Program()) {
				t.Fatalf("%s\na twin: %v; want %s", d.text, twin.State(), still)
			}
			list := operations(d.Rand, 20)
			want := twin.Play(list)
			if fmt.Sprint(e.State(), e.Stats(), e.Layout()) != still {
				t.Fatalf("%s\n%v: %v; it was %s", d.text, list, e.State(), still)
			}
			still = fmt.Sprint(twin.State(), twin.Stats(), twin.Layout())
			if got := e.Play(list); !sameTrace(got, want) {
				t.Fatalf("%s\n%v: %v; want %v", d.text, list, got, want)
			}
			if fmt.Sprint(e.State(), e.Stats(), e.Layout()) != still {
				t.Fatalf("%s\n%v: %v; want %s", d.text, list, e.State(), still)
			}
			e.Play(operations(d.Rand, 10))
			if fmt.Sprint(twin.State(), twin.Stats(), twin.Layout()) != still {
				t.Fatalf("%s\nits twin has changed: %v; it was %s", d.text, twin.State(), still)
			}
		}
	}
}
