package gen_test

import (
	"slices"
	"testing"

	"winnow/api"
	"winnow/gen"
	"winnow/rule"
)

// spare is a list with spare room behind it, in which something stands.
func spare[T any](list []T, last T) []T {
	return append(slices.Clone(list), last, last)[:len(list)]
}

// roomy is a plan with spare room behind each list.
func roomy(p api.Plan) api.Plan {
	q := rule.Twin(p)
	q.Ghost, q.Vars, q.Tags, q.Miss = spare(q.Ghost, true), spare(q.Vars, api.Var{Init: -7}), spare(q.Tags, -7), spare(q.Miss, api.Act{Kind: -7})
	for i := range q.On {
		q.On[i] = spare(q.On[i], api.Act{Kind: -7})
	}
	q.On = spare(q.On, []api.Act{{Kind: -7}})
	return q
}

func sameRoom[T comparable](a, b []T) bool { return slices.Equal(a[:cap(a)], b[:cap(b)]) }

// samePlanRoom tells whether two plans are the same, the spare room of their lists too.
func samePlanRoom(a, b api.Plan) bool {
	return sameRoom(a.Ghost, b.Ghost) && sameRoom(a.Vars, b.Vars) && sameRoom(a.Tags, b.Tags) && sameRoom(a.Miss, b.Miss) && slices.EqualFunc(a.On[:cap(a.On)], b.On[:cap(b.On)], sameRoom[api.Act])
}

// fill puts something in all of a list, and into its spare room.
func fill[T any](list []T, value T) {
	for i := range list[:cap(list)] {
		list[:cap(list)][i] = value
	}
}

// fillProgram leaves nothing of a program.
func fillProgram(x api.Program) {
	fill(x.Ghost, true)
	fill(x.Vars, api.Var{Init: 1, Lo: 1, Hi: 1})
	fill(x.Tags, 1)
	fill(x.On, -7)
	fill(x.Code, api.Instr{Op: -7})
}

// fillPlan leaves nothing of a plan.
func fillPlan(p api.Plan) {
	fill(p.Ghost, true)
	fill(p.Vars, api.Var{Init: 1, Lo: 1, Hi: 1})
	fill(p.Tags, 1)
	fill(p.Miss, api.Act{Kind: -7})
	for _, rows := range p.On {
		fill(rows, api.Act{Kind: -7})
	}
	fill(p.On, nil)
}

func shared(seed int64) api.Plan {
	p, _, _ := plotted(seed + 50000)
	return p
}

func TestP2NothingIsChanged(t *testing.T) {
	for seed := range int64(500) {
		p, want := roomy(shared(seed)), roomy(shared(seed))
		gen.Make(p)
		gen.Origin(p)
		if !samePlanRoom(p, want) {
			t.Fatalf("%v; it was %v", p, want)
		}
	}
}

// What is told is the caller's own, and what was handed in is not kept.
func TestP2AnswersAreApart(t *testing.T) {
	for seed := range int64(500) {
		p, before := roomy(shared(seed)), roomy(shared(seed))
		want, events, rows := plainProgram(shared(seed))
		x := program(t, p)
		a, b := origin(t, p)
		fillProgram(program(t, p))
		again, other := origin(t, p)
		fill(again, -7)
		if !slices.Equal(other, rows) {
			t.Fatalf("%v: rows %v; want %v", before, other, rows)
		}
		fill(other, -7)
		if !samePlanRoom(p, before) {
			t.Fatalf("%v; it was %v", p, before)
		}
		fillPlan(p)
		if !sameProgram(x, want) || !slices.Equal(a, events) || !slices.Equal(b, rows) {
			t.Fatalf("%v: %v, %v, %v; want %v, %v, %v", before, x, a, b, want, events, rows)
		}
		fill(x.Vars, api.Var{})
		fill(x.Tags, -7)
		fill(x.On, -7)
		if !slices.Equal(x.Ghost, want.Ghost) || !slices.Equal(x.Code, want.Code) {
			t.Fatalf("%v: lists share memory", before)
		}
	}
}

func TestP3Again(t *testing.T) {
	for seed := range int64(200) {
		p := shared(seed)
		x := program(t, p)
		events, rows := origin(t, p)
		for range 3 {
			if y := program(t, p); !sameProgram(x, y) {
				t.Fatalf("%v: %v; it was %v", p, y, x)
			}
			if a, b := origin(t, p); !slices.Equal(a, events) || !slices.Equal(b, rows) {
				t.Fatalf("%v: %v, %v; it was %v, %v", p, a, b, events, rows)
			}
		}
	}
}
