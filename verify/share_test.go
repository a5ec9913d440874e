package verify_test

import (
	"slices"
	"testing"

	"winnow/api"
	"winnow/verify"
)

// spare is a list with spare room behind it, in which something stands.
func spare[T any](list []T, last T) []T {
	return append(slices.Clone(list), last, last)[:len(list)]
}

// roomy is a program with spare room behind each list.
func roomy(p api.Program) api.Program {
	p.Ghost, p.Vars, p.Tags = spare(p.Ghost, true), spare(p.Vars, api.Var{Init: -7}), spare(p.Tags, -7)
	p.On, p.Code = spare(p.On, -7), spare(p.Code, api.Instr{Op: -7})
	return p
}

func sameRoom[T comparable](a, b []T) bool { return slices.Equal(a[:cap(a)], b[:cap(b)]) }

// sameProgramRoom tells whether two programs are the same, the spare room of their lists too.
func sameProgramRoom(a, b api.Program) bool {
	return sameRoom(a.Ghost, b.Ghost) && sameRoom(a.Vars, b.Vars) && sameRoom(a.Tags, b.Tags) && sameRoom(a.On, b.On) && a.Miss == b.Miss && sameRoom(a.Code, b.Code)
}

// fill puts something in all of a list, and into its spare room.
func fill[T any](list []T, value T) {
	for i := range list[:cap(list)] {
		list[:cap(list)][i] = value
	}
}

// fillProgram leaves nothing of a program.
func fillProgram(x api.Program) {
	fill(x.Ghost, true)
	fill(x.Vars, api.Var{Init: 1, Lo: 1, Hi: 1})
	fill(x.Tags, 1)
	fill(x.On, -7)
	fill(x.Code, api.Instr{Op: -7})
}

// some is a program that is taken, or nearly.
func some(seed int64) api.Program {
	p, _, w := woven(seed + 30000)
	if seed%3 == 0 {
		spoil(w.Rand, &p)
	}
	return p
}

func TestP2NothingIsChanged(t *testing.T) {
	for seed := range int64(500) {
		p, want := roomy(some(seed)), roomy(some(seed))
		verify.Run(p)
		verify.Heights(p)
		if !sameProgramRoom(p, want) {
			t.Fatalf("%v; it was %v", p, want)
		}
	}
}

// What is told is the caller's own, and what was handed in is not kept.
func TestP2AnswersAreApart(t *testing.T) {
	for seed := range int64(500) {
		p, before := roomy(some(seed)), roomy(some(seed))
		j, other := answers(t, p), answers(t, p)
		fill(other.costs.On, -7)
		fill(other.heights, -7)
		if !sameProgramRoom(p, before) {
			t.Fatalf("%v; it was %v", p, before)
		}
		fillProgram(p)
		if want := plainly(before); j.fault != want.fault || !sameCosts(j.costs, want.costs) || !slices.Equal(j.heights, want.heights) {
			t.Fatalf("%v: %v; want %v", before, j, want)
		}
	}
}

func TestP3Again(t *testing.T) {
	for seed := range int64(300) {
		p := some(seed)
		j := answers(t, p)
		for n := range int64(3) {
			answers(t, some(seed+n))
			want(t, p, j)
		}
	}
}

// Beside a fault there is nothing (P4).
func TestP4(t *testing.T) {
	got := map[api.Errno]int{}
	for seed := range int64(3000) {
		p := some(seed * 3)
		if j := answers(t, p); j.fault != (api.Fault{}) {
			got[j.fault.Err]++
			if len(j.costs.On)+j.costs.Miss+len(j.heights) > 0 {
				t.Fatalf("%s\n%v", tell(p), j)
			}
		}
	}
	if len(got) < 7 {
		t.Errorf("%v", got)
	}
}

// No list is an empty one.
func TestP2NoLists(t *testing.T) {
	want(t, api.Program{Ghost: []bool{}, Vars: []api.Var{}, Tags: []int{}, On: []int{}, Miss: -1, Code: []api.Instr{}}, judged{})
	want(t, api.Program{Code: []api.Instr{{Op: api.ITotal}, {Op: api.ISize}, {Op: api.ILt}, {Op: api.IElse, A: 4}, {Op: api.IEnd}}}, judged{costs: api.Costs{Miss: 5}, heights: []int{0, 1, 2, 1, 0}})
}
