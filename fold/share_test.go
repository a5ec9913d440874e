package fold_test

import (
	"slices"
	"testing"

	"winnow/api"
	"winnow/fold"
	"winnow/rule"
)

// spare is a list with spare room behind it, in which something stands.
func spare[T any](list []T, last T) []T {
	return append(slices.Clone(list), last, last)[:len(list)]
}

// roomy is a plan with spare room behind each list.
func roomy(p api.Plan) api.Plan {
	q := rule.Twin(p)
	q.Ghost, q.Vars, q.Tags, q.Miss = spare(q.Ghost, true), spare(q.Vars, api.Var{Init: -7}), spare(q.Tags, -7), spare(q.Miss, api.Act{Kind: -7})
	for i := range q.On {
		q.On[i] = spare(q.On[i], api.Act{Kind: -7})
	}
	q.On = spare(q.On, []api.Act{{Kind: -7}})
	return q
}

func sameRoom[T comparable](a, b []T) bool { return slices.Equal(a[:cap(a)], b[:cap(b)]) }

// samePlanRoom tells whether two plans are the same, the spare room of their lists too.
func samePlanRoom(a, b api.Plan) bool {
	return sameRoom(a.Ghost, b.Ghost) && sameRoom(a.Vars, b.Vars) && sameRoom(a.Tags, b.Tags) && sameRoom(a.Miss, b.Miss) && slices.EqualFunc(a.On[:cap(a.On)], b.On[:cap(b.On)], sameRoom[api.Act])
}

// fill puts something in all of a list, and into its spare room.
func fill[T any](list []T, value T) {
	for i := range list[:cap(list)] {
		list[:cap(list)][i] = value
	}
}

// fillPlan wants no two lists of a plan to share memory, and leaves nothing of it.
func fillPlan(t *testing.T, p api.Plan) {
	t.Helper()
	lists := append([][]api.Act{p.Miss}, p.On...)
	for i, list := range lists {
		fill(list, api.Act{Kind: 100 + i})
	}
	for i, list := range lists {
		for _, a := range list[:cap(list)] {
			if a.Kind != 100+i {
				t.Fatalf("two lists share memory: %d, %d", a.Kind, 100+i)
			}
		}
	}
	fill(p.Ghost, true)
	fill(p.Vars, api.Var{Init: 1, Lo: 1, Hi: 1})
	fill(p.Tags, 1)
	fill(p.On, nil)
}

// shared is a plan by chance with nothing left, or with much.
func shared(seed int64) api.Plan {
	p, _, _ := plotted(seed)
	if seed%3 == 0 {
		p = plainRun(p, map[int]int{})
	}
	return p
}

func TestP2NothingIsChanged(t *testing.T) {
	for seed := range int64(300) {
		p := roomy(shared(seed + 40000))
		want := roomy(shared(seed + 40000))
		fold.Left(p)
		fold.Once(p)
		fold.Run(p)
		if !samePlanRoom(p, want) {
			t.Fatalf("%v; it was %v", p, want)
		}
	}
}

// What is told is the caller's own, and what was handed in is not kept.
func TestP2PlansAreApart(t *testing.T) {
	for seed := range int64(300) {
		p := roomy(shared(seed + 50000))
		next, last := once(t, p), run(t, p)
		again, end := once(t, p), run(t, p)
		fillPlan(t, again)
		fillPlan(t, end)
		before := shared(seed + 50000)
		if !rule.Same(p, before) {
			t.Fatalf("%v; it was %v", p, before)
		}
		fillPlan(t, p)
		if want := plainOnce(before); !rule.Same(next, want) {
			t.Fatalf("Once: %v; want %v", next, want)
		}
		if want := plainRun(before, map[int]int{}); !rule.Same(last, want) {
			t.Fatalf("Run: %v; want %v", last, want)
		}
	}
}

func TestP3Again(t *testing.T) {
	for seed := range int64(200) {
		p := shared(seed + 60000)
		event, row, what, is := fold.Left(p)
		next, last := once(t, p), run(t, p)
		for range 3 {
			if a, b, c, d := fold.Left(p); a != event || b != row || c != what || d != is {
				t.Fatalf("%v: %d, %d, %d, %v; it was %d, %d, %d, %v", p, a, b, c, d, event, row, what, is)
			}
			if !rule.Same(once(t, p), next) || !rule.Same(run(t, p), last) {
				t.Fatalf("%v: not the same again", p)
			}
		}
	}
}
