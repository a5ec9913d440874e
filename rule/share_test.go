package rule_test

import (
	"slices"
	"testing"

	"winnow/api"
	"winnow/rule"
	"winnow/typed"
)

const ordinary = things + `rule s { if full(a) { evict a back to g front; } } rule r { if full(g) { drop g back; } call s; }
	on hit a { set v = v + 1; mark x t = t(x) + 1; } on ghost g { if v > 3 { forget; forget; } else { mark x u = 7; } }
	on miss { loop 2 while v > 5 { set v = v - 5; } call r; insert a front; } }`

// spare is a list with spare room behind it, in which something stands.
func spare[T any](list []T, last T) []T {
	return append(slices.Clone(list), last, last)[:len(list)]
}

// fill puts something in all of a list, and into its spare room.
func fill[T any](list []T, value T) {
	for i := range list[:cap(list)] {
		list[:cap(list)][i] = value
	}
}

// roomy are a policy, types and capacities with spare room.
func roomy(t *testing.T) (api.Policy, api.Typed, api.Caps) {
	p, c := whole(t, ordinary), usual()
	u, fault := typed.Check(p, c)
	if fault != (api.Fault{}) {
		t.Fatal(fault)
	}
	p.Rows, p.Queues, p.Vars, p.Tags = spare(p.Rows, api.Row{Kind: api.NPass}), spare(p.Queues, api.Queue{Name: "spare"}), spare(p.Vars, "spare"), spare(p.Tags, "spare")
	p.Rules, p.On = spare(p.Rules, -7), spare(p.On, -7)
	u.Vars, u.Tags, u.Rounds = spare(u.Vars, api.Var{Init: -7}), spare(u.Tags, -7), spare(u.Rounds, -7)
	c.Queues = spare(c.Queues, -7)
	return p, u, c
}

// roomyPlan has spare room behind each list.
func roomyPlan(t *testing.T) (api.Plan, api.Caps) {
	p, c := lower(t, ordinary, usual()), usual()
	p.Ghost, p.Vars, p.Tags, p.Miss = spare(p.Ghost, true), spare(p.Vars, api.Var{Init: -7}), spare(p.Tags, -7), spare(p.Miss, api.Act{Kind: -7})
	for q := range p.On {
		p.On[q] = spare(p.On[q], api.Act{Kind: -7})
	}
	p.On = spare(p.On, []api.Act{{Kind: -7}})
	c.Queues = spare(c.Queues, -7)
	return p, c
}

// sameRoom tells whether two lists are the same, their spare room too.
func sameRoom[T comparable](a, b []T) bool { return slices.Equal(a[:cap(a)], b[:cap(b)]) }

func samePlanRoom(a, b api.Plan) bool {
	return sameRoom(a.Ghost, b.Ghost) && sameRoom(a.Vars, b.Vars) && sameRoom(a.Tags, b.Tags) && sameRoom(a.Miss, b.Miss) && slices.EqualFunc(a.On[:cap(a.On)], b.On[:cap(b.On)], sameRoom[api.Act])
}

func fillPlan(p api.Plan) {
	fill(p.Ghost, true)
	fill(p.Vars, api.Var{Init: 1, Lo: 1, Hi: 1})
	fill(p.Tags, 1)
	fill(p.Miss, api.Act{Kind: 99, A: 99, Kids: 99})
	for _, rows := range p.On {
		fill(rows, api.Act{Kind: 98, A: 98, Kids: 98})
	}
	fill(p.On, nil)
}

func TestP2NothingIsChanged(t *testing.T) {
	p, u, c := roomy(t)
	q, v, d := roomy(t)
	if _, err := rule.Lower(p, u, c); err != api.OK {
		t.Fatal(err)
	}
	if !sameRoom(p.Rows, q.Rows) || !sameRoom(p.Queues, q.Queues) || !sameRoom(p.Vars, q.Vars) || !sameRoom(p.Tags, q.Tags) || !sameRoom(p.Rules, q.Rules) || !sameRoom(p.On, q.On) {
		t.Error("the policy is changed")
	}
	if !sameRoom(u.Vars, v.Vars) || !sameRoom(u.Tags, v.Tags) || !sameRoom(u.Rounds, v.Rounds) || !sameRoom(c.Queues, d.Queues) {
		t.Error("types or capacities are changed")
	}
	x, c := roomyPlan(t)
	y, d := roomyPlan(t)
	twin := rule.Twin(x)
	if rule.Check(x) != api.OK || !rule.Same(x, twin) {
		t.Fatal(rule.Check(x))
	}
	m := open(t, x, c)
	for n := range uint64(40) {
		m.Access(n * n % 7)
		m.Twin().Access(n)
		m.Remove(n / 3)
	}
	if !samePlanRoom(x, y) || !sameRoom(c.Queues, d.Queues) {
		t.Error("the plan or capacities are changed")
	}
}

// What was handed in is not kept: it may be anything afterwards.
func TestP2NothingIsKept(t *testing.T) {
	p, u, c := roomy(t)
	x, err := rule.Lower(p, u, c)
	if err != api.OK {
		t.Fatal(err)
	}
	fill(p.Rows, api.Row{Kind: -1, N: 99, Kids: 99})
	fill(p.Queues, api.Queue{Name: "no", Ghost: true})
	fill(p.On, 99999)
	fill(u.Vars, api.Var{Init: 1, Lo: 1, Hi: 1})
	fill(u.Tags, 1)
	fill(u.Rounds, 0)
	fill(c.Queues, 1)
	if want := lower(t, ordinary, usual()); !rule.Same(x, want) {
		t.Errorf("%v; want %v", x, want)
	}
	x, c = roomyPlan(t)
	y := rule.Twin(x)
	m := open(t, x, c)
	other := m.Twin()
	fillPlan(x)
	fill(c.Queues, 1)
	if want := lower(t, ordinary, usual()); !rule.Same(y, want) {
		t.Errorf("%v; want %v", y, want)
	}
	want := openText(t, ordinary, usual())
	for n := range uint64(60) {
		op := api.Op{Key: n * n % 7, Remove: n%11 == 0}
		w := play(want, op)
		for _, got := range []told{play(m, op), play(other, op), play(m.Twin().Twin(), api.Op{Key: 1 << 60, Remove: true})} {
			if got.was == api.RNone && op.Remove {
				got.was = w.was
			}
			if !sameState(got.state, w.state) || got.stats != w.stats {
				t.Fatalf("%v: %v; want %v", op, got, w)
			}
		}
	}
}

// wantApart wants no two lists of a plan to share memory.
func wantApart(t *testing.T, p api.Plan) {
	t.Helper()
	lists := append([][]api.Act{p.Miss}, p.On...)
	for i, list := range lists {
		fill(list, api.Act{Kind: 100 + i})
	}
	for i, list := range lists {
		for _, a := range list[:cap(list)] {
			if a.Kind != 100+i {
				t.Fatalf("two lists share memory: %d, %d", a.Kind, 100+i)
			}
		}
	}
	fillPlan(p)
}

func TestP2PlansAreApart(t *testing.T) {
	for seed := range int64(200) {
		d, _ := chance(t, seed+60000)
		want := lowered(d.p, d.u, d.c)
		p, _ := rule.Lower(d.p, d.u, d.c)
		twin := rule.Twin(p)
		wantApart(t, p)
		if q, _ := rule.Lower(d.p, d.u, d.c); !rule.Same(q, want) || !rule.Same(twin, want) {
			t.Fatalf("%s\n%v, %v; want %v", d.text, q, twin, want)
		}
		wantApart(t, twin)
	}
}

// spoil puts something in each list of what was told, and wants no other list of it to be touched by that.
func spoil(t *testing.T, x told) {
	t.Helper()
	lists := [][]int{x.state.Vars}
	for _, list := range x.state.Queues {
		for _, e := range list {
			lists = append(lists, e.Tags)
		}
	}
	for i, list := range lists {
		fill(list, -100-i)
	}
	for i, list := range lists {
		for _, n := range list[:cap(list)] {
			if n != -100-i {
				t.Fatalf("two lists share memory: %d, %d", n, -100-i)
			}
		}
	}
	for i, list := range x.state.Queues {
		fill(list, api.Entry{Key: uint64(1000 + i)})
	}
	for i, list := range x.state.Queues {
		if slices.ContainsFunc(list[:cap(list)], func(e api.Entry) bool { return e.Key != uint64(1000+i) }) {
			t.Fatal("two queues share memory")
		}
	}
	fill(x.answer.Evicted, 7777)
	fill(x.state.Queues, nil)
}

// Answers are new memory.
func TestP2AnswersAreApart(t *testing.T) {
	for seed := range int64(300) {
		p, c, r := plotted(seed + 60000)
		m, other := open(t, p, c), open(t, p, c)
		for _, op := range operations(r.Rand, 40) {
			want := play(other, op)
			got := play(m, op)
			if !sameTold(got, want) {
				t.Fatalf("%v\n%v: %v; want %v", p, op, got, want)
			}
			spoil(t, got)
		}
	}
}

func TestP3Again(t *testing.T) {
	for seed := range int64(100) {
		d, r := chance(t, seed+70000)
		list := operations(r.Rand, 40)
		var first []told
		for n := range 4 {
			p, err := rule.Lower(d.p, d.u, d.c)
			if err != api.OK {
				t.Fatal(err)
			}
			m := open(t, p, d.c)
			for i, op := range list {
				out := play(m, op)
				if n == 0 {
					first = append(first, out)
				} else if !sameTold(out, first[i]) {
					t.Fatalf("%s\n%v: %v; it was %v", d.text, op, out, first[i])
				}
			}
		}
	}
}
