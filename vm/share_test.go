package vm_test

import (
	"slices"
	"testing"

	"winnow/api"
	"winnow/vm"
)

// spare is a list with spare room behind it, in which something stands.
func spare[T any](list []T, last T) []T {
	return append(slices.Clone(list), last, last)[:len(list)]
}

// roomy are a program and capacities with spare room behind each list.
func roomy(t *testing.T, seed int64) (api.Program, api.Caps) {
	p, c, _ := chance(t, seed+60000)
	p.Ghost, p.Vars, p.Tags = spare(p.Ghost, true), spare(p.Vars, api.Var{Init: -7}), spare(p.Tags, -7)
	p.On, p.Code, c.Queues = spare(p.On, -7), spare(p.Code, api.Instr{Op: -7}), spare(c.Queues, -7)
	return p, c
}

func sameRoom[T comparable](a, b []T) bool { return slices.Equal(a[:cap(a)], b[:cap(b)]) }

func sameProgramRoom(a, b api.Program) bool {
	return sameRoom(a.Ghost, b.Ghost) && sameRoom(a.Vars, b.Vars) && sameRoom(a.Tags, b.Tags) && sameRoom(a.On, b.On) && a.Miss == b.Miss && sameRoom(a.Code, b.Code)
}

// fill puts something in all of a list, and into its spare room.
func fill[T any](list []T, value T) {
	for i := range list[:cap(list)] {
		list[:cap(list)][i] = value
	}
}

func fillProgram(p api.Program) {
	fill(p.Ghost, true)
	fill(p.Vars, api.Var{Init: 1, Lo: 1, Hi: 1})
	fill(p.Tags, 1)
	fill(p.On, 0)
	fill(p.Code, api.Instr{Op: api.IEnd})
}

func TestP2NothingIsChanged(t *testing.T) {
	for seed := range int64(500) {
		p, c := roomy(t, seed)
		q, d := roomy(t, seed)
		m := open(t, p, c)
		for n := range uint64(40) {
			m.Access(n * n % 7)
			m.Twin().Access(n)
			m.Remove(n / 3)
		}
		vm.New(p, api.Caps{Queues: c.Queues})
		if !sameProgramRoom(p, q) || !sameRoom(c.Queues, d.Queues) {
			t.Fatalf("%v, %v; it was %v, %v", p, c, q, d)
		}
	}
}

// What was handed in is not kept: it may be anything afterwards.
func TestP2NothingIsKept(t *testing.T) {
	for seed := range int64(500) {
		p, c := roomy(t, seed)
		q, d := roomy(t, seed)
		m, want := open(t, p, c), open(t, q, d)
		twin := m.Twin()
		fillProgram(p)
		fill(c.Queues, 1)
		for n := range uint64(60) {
			op := api.Op{Key: n * n % 11, Remove: n%13 == 0}
			w := play(want, op)
			for _, x := range []*vm.Machine{m, twin} {
				if got := play(x, op); !same(got, w) {
					t.Fatalf("%s\n%v: %v; want %v", tell(q), op, got, w)
				}
			}
		}
	}
}

// spoilTold puts something in each list of what was told, and wants no other list of it to be touched by that.
func spoilTold(t *testing.T, x told) {
	t.Helper()
	lists := [][]int{x.state.Vars}
	for _, list := range x.state.Queues {
		for _, e := range list {
			lists = append(lists, e.Tags)
		}
	}
	for i, list := range lists {
		fill(list, -100-i)
	}
	for i, list := range lists {
		for _, n := range list[:cap(list)] {
			if n != -100-i {
				t.Fatalf("two lists share memory: %d, %d", n, -100-i)
			}
		}
	}
	for i, list := range x.state.Queues {
		fill(list, api.Entry{Key: uint64(1000 + i)})
	}
	for i, list := range x.state.Queues {
		if slices.ContainsFunc(list[:cap(list)], func(e api.Entry) bool { return e.Key != uint64(1000+i) }) {
			t.Fatal("two queues share memory")
		}
	}
	fill(x.answer.Evicted, 7777)
	fill(x.state.Queues, nil)
}

// What is told is the caller's own.
func TestP2AnswersAreApart(t *testing.T) {
	for seed := range int64(600) {
		p, c, r := chance(t, seed+70000)
		m, other := open(t, p, c), open(t, p, c)
		var last []uint64
		for _, op := range operations(r, 40) {
			want := play(other, op)
			got := play(m, op)
			if !same(got, want) {
				t.Fatalf("%s\n%v: %v; want %v", tell(p), op, got, want)
			}
			spoilTold(t, got)
			// What was told ahead stays as it is.
			if slices.ContainsFunc(last, func(key uint64) bool { return key != 7777 }) {
				t.Fatalf("%s\n%v: an answer has changed: %v", tell(p), op, last)
			}
			if last = got.answer.Evicted; last != nil {
				last = last[:cap(last)]
			}
		}
	}
}

// The same calls answer the same, of each object that New answers: no two see one another (P3, P7).
func TestP7Apart(t *testing.T) {
	for seed := range int64(200) {
		p, c, r := chance(t, seed+80000)
		list := operations(r, 40)
		first := open(t, p, c)
		var want []told
		for _, op := range list {
			want = append(want, play(first, op))
		}
		a, b := open(t, p, c), open(t, p, c)
		for i, op := range list {
			for _, m := range []*vm.Machine{a, b} {
				if got := play(m, op); !same(got, want[i]) {
					t.Fatalf("%s\n%v: %v; it was %v", tell(p), op, got, want[i])
				}
			}
		}
	}
}

// No list is an empty one.
func TestP2NoLists(t *testing.T) {
	for _, p := range []api.Program{
		{Miss: 0, Code: program("total, size, lt, else E, E: end").Code},
		{Ghost: []bool{}, Vars: []api.Var{}, Tags: []int{}, On: []int{}, Miss: 0, Code: program("total, size, lt, else E, E: end").Code},
	} {
		for _, c := range []api.Caps{{Size: 1}, {Size: 1, Queues: []int{}}} {
			m := open(t, p, c)
			wantAccess(t, m, 7, "miss", 5, ";")
			if m.Remove(7) != api.RNone || len(m.State().Queues) > 0 || len(m.State().Vars) > 0 {
				t.Errorf("%v", m.State())
			}
		}
	}
}
