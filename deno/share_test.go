package deno_test

import (
	"slices"
	"testing"

	"winnow/api"
	"winnow/deno"
	"winnow/typed"
)

const ordinary = things + `rule s { if full(a) { evict a back to g front; } } rule r { if full(g) { drop g back; } call s; }
	on hit a { set v = v + 1; mark x t = t(x) + 1; } on ghost g { if v > 3 { forget; forget; } else { mark x u = 7; } }
	on miss { loop 2 while v > 5 { set v = v - 5; } call r; insert a front; } }`

// spare is a list with spare room behind it, in which something stands.
func spare[T any](list []T, last T) []T {
	return append(slices.Clone(list), last, last)[:len(list)]
}

// fill puts something in all of a list, and into its spare room.
func fill[T any](list []T, value T) {
	for i := range list[:cap(list)] {
		list[:cap(list)][i] = value
	}
}

// handed are a policy, types and capacities with spare room.
func handed(t *testing.T) (api.Policy, api.Typed, api.Caps) {
	p, c := whole(t, ordinary), usual()
	u, fault := typed.Check(p, c)
	if fault != (api.Fault{}) {
		t.Fatal(fault)
	}
	p.Rows, p.Queues, p.Vars, p.Tags = spare(p.Rows, api.Row{Kind: api.NPass}), spare(p.Queues, api.Queue{Name: "spare"}), spare(p.Vars, "spare"), spare(p.Tags, "spare")
	p.Rules, p.On = spare(p.Rules, -7), spare(p.On, -7)
	u.Vars, u.Tags, u.Rounds = spare(u.Vars, api.Var{Init: -7}), spare(u.Tags, -7), spare(u.Rounds, -7)
	c.Queues = spare(c.Queues, -7)
	return p, u, c
}

func whatever(t *testing.T, p api.Policy, u api.Typed, c api.Caps) *deno.Machine {
	t.Helper()
	m, err := deno.New(p, u, c)
	if err != api.OK {
		t.Fatal(err)
	}
	return m
}

func TestP2NothingIsChanged(t *testing.T) {
	p, u, c := handed(t)
	q, v, d := handed(t)
	m := whatever(t, p, u, c)
	for n := range uint64(40) {
		m.Trace(n * n % 7)
		m.Twin().Access(n)
	}
	if !slices.Equal(p.Rows[:cap(p.Rows)], q.Rows[:cap(q.Rows)]) || !slices.Equal(p.Queues[:cap(p.Queues)], q.Queues[:cap(q.Queues)]) || !slices.Equal(p.Vars[:cap(p.Vars)], q.Vars[:cap(q.Vars)]) || !slices.Equal(p.Tags[:cap(p.Tags)], q.Tags[:cap(q.Tags)]) || !slices.Equal(p.Rules[:cap(p.Rules)], q.Rules[:cap(q.Rules)]) || !slices.Equal(p.On[:cap(p.On)], q.On[:cap(q.On)]) {
		t.Error("the policy is changed")
	}
	if !slices.Equal(u.Vars[:cap(u.Vars)], v.Vars[:cap(v.Vars)]) || !slices.Equal(u.Tags[:cap(u.Tags)], v.Tags[:cap(v.Tags)]) || !slices.Equal(u.Rounds[:cap(u.Rounds)], v.Rounds[:cap(v.Rounds)]) || !slices.Equal(c.Queues[:cap(c.Queues)], d.Queues[:cap(d.Queues)]) {
		t.Error("types or capacities are changed")
	}
}

// What was handed in is not kept: it may be anything afterwards.
func TestP2NothingIsKept(t *testing.T) {
	p, u, c := handed(t)
	m := whatever(t, p, u, c)
	other := m.Twin()
	fill(p.Rows, api.Row{Kind: -1, N: 99, Kids: 99})
	fill(p.Queues, api.Queue{Name: "no", Ghost: true})
	fill(p.Rules, 99999)
	fill(p.On, 99999)
	fill(u.Vars, api.Var{Init: 1, Lo: 1, Hi: 1})
	fill(u.Tags, 1)
	fill(u.Rounds, 0)
	fill(c.Queues, 1)
	want := open(t, ordinary, usual())
	for n := range uint64(60) {
		op := api.Op{Key: n * n % 7, Remove: n%11 == 0}
		w := play(want, op)
		for _, got := range []told{play(m, op), play(other, op), play(m.Twin().Twin(), api.Op{Key: 1 << 60, Remove: true})} {
			if got.was == api.RNone && op.Remove {
				got.was = w.was
			}
			if !sameState(got.state, w.state) || got.stats != w.stats || got.steps != w.steps {
				t.Fatalf("%v: %v; want %v", op, got, w)
			}
		}
	}
}

// spoil puts something in each list of what was told, and wants no other list of it to be touched by that.
func spoil(t *testing.T, x told) {
	t.Helper()
	lists := [][]int{x.state.Vars}
	for _, point := range x.points {
		lists = append(lists, point.Lens, point.Vars)
	}
	for _, list := range x.state.Queues {
		for _, e := range list {
			lists = append(lists, e.Tags)
		}
	}
	for i, list := range lists {
		fill(list, -100-i)
	}
	for i, list := range lists {
		for _, n := range list[:cap(list)] {
			if n != -100-i {
				t.Fatalf("two lists share memory: %d, %d", n, -100-i)
			}
		}
	}
	for i, list := range x.state.Queues {
		fill(list, api.Entry{Key: uint64(1000 + i)})
	}
	for i, list := range x.state.Queues {
		if slices.ContainsFunc(list[:cap(list)], func(e api.Entry) bool { return e.Key != uint64(1000+i) }) {
			t.Fatal("two queues share memory")
		}
	}
	fill(x.answer.Evicted, 7777)
	fill(x.points, api.Point{Row: -7})
	fill(x.state.Queues, nil)
}

// Answers are new memory.
func TestP2NothingIsShared(t *testing.T) {
	for seed := range int64(300) {
		d, r := chance(t, seed+60000)
		m, other := d.machine(t), d.machine(t)
		for _, op := range operations(r.Rand, 40) {
			want := play(other, op)
			got := play(m, op)
			if !sameTold(got, want) {
				t.Fatalf("%s\n%v: %v; want %v", d.text, op, got, want)
			}
			spoil(t, got)
		}
	}
}

func TestP3Again(t *testing.T) {
	for seed := range int64(100) {
		d, r := chance(t, seed+70000)
		list := operations(r.Rand, 40)
		var first []told
		for n := range 4 {
			m := d.machine(t)
			for i, op := range list {
				out := play(m, op)
				if n == 0 {
					first = append(first, out)
				} else if !sameTold(out, first[i]) {
					t.Fatalf("%s\n%v: %v; it was %v", d.text, op, out, first[i])
				}
			}
		}
	}
}
