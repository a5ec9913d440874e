package arena_test

import (
	"fmt"
	"math"
	"math/rand"
	"slices"
	"testing"

	"winnow/api"
	"winnow/arena"
)

// plain is an arena as the chapter's words have it: lists are slices, and everything is searched for.
type plain struct {
	size  int
	lists [][]cell
	freed []int // the last one last
	used  int   // nodes below it were in a list at some time
}

type cell struct{ node, held int }

func newPlain(nodes, lists int) *plain {
	return &plain{size: nodes, lists: make([][]cell, lists)}
}

func (p *plain) twin() *plain {
	q := &plain{size: p.size, freed: slices.Clone(p.freed), used: p.used}
	for _, l := range p.lists {
		q.lists = append(q.lists, slices.Clone(l))
	}
	return q
}

func (p *plain) where(node int) (list, at int, ok bool) {
	for i, l := range p.lists {
		for j, c := range l {
			if c.node == node {
				return i, j, true
			}
		}
	}
	return 0, 0, false
}

func (p *plain) noList(list int) bool { return list < 0 || list >= len(p.lists) }

func (p *plain) noNode(node int) bool { return node < 0 || node >= p.size }

func noEnd(end int) bool { return end != 0 && end != 1 }

func (p *plain) lay(list, end int, c cell) {
	if end == api.Front {
		p.lists[list] = append([]cell{c}, p.lists[list]...)
	} else {
		p.lists[list] = append(p.lists[list], c)
	}
}

func (p *plain) out(list, at int) cell {
	c := p.lists[list][at]
	p.lists[list] = slices.Delete(p.lists[list], at, at+1)
	return c
}

func (p *plain) free() int { return p.size - p.used + len(p.freed) }

func (p *plain) push(list, end, v int) (int, api.Errno) {
	if p.noList(list) || noEnd(end) {
		return 0, api.ErrArg
	}
	if p.free() == 0 {
		return 0, api.ErrFull
	}
	node := p.used
	if k := len(p.freed) - 1; k >= 0 {
		node = p.freed[k]
		p.freed = p.freed[:k]
	} else {
		p.used++
	}
	p.lay(list, end, cell{node, v})
	return node, api.OK
}

func (p *plain) pop(list, end int) (int, api.Errno) {
	if p.noList(list) || noEnd(end) {
		return 0, api.ErrArg
	}
	k := len(p.lists[list])
	if k == 0 {
		return 0, api.ErrEmpty
	}
	c := p.out(list, end*(k-1))
	p.freed = append(p.freed, c.node)
	return c.held, api.OK
}

func (p *plain) unlink(node int) (int, api.Errno) {
	if p.noNode(node) {
		return 0, api.ErrArg
	}
	list, at, ok := p.where(node)
	if !ok {
		return 0, api.ErrWhere
	}
	p.freed = append(p.freed, node)
	return p.out(list, at).held, api.OK
}

func (p *plain) move(node, list, end int) api.Errno {
	if p.noNode(node) || p.noList(list) || noEnd(end) {
		return api.ErrArg
	}
	from, at, ok := p.where(node)
	if !ok {
		return api.ErrWhere
	}
	p.lay(list, end, p.out(from, at))
	return api.OK
}

func (p *plain) get(node int) (int, api.Errno) {
	if p.noNode(node) {
		return 0, api.ErrArg
	}
	list, at, ok := p.where(node)
	if !ok {
		return 0, api.ErrWhere
	}
	return p.lists[list][at].held, api.OK
}

func (p *plain) set(node, v int) api.Errno {
	if _, err := p.get(node); err != api.OK {
		return err
	}
	list, at, _ := p.where(node)
	p.lists[list][at].held = v
	return api.OK
}

// from tells a list from an end on.
func (p *plain) from(list, end int) []cell {
	if p.noList(list) || noEnd(end) {
		return nil
	}
	l := slices.Clone(p.lists[list])
	if end == api.Back {
		slices.Reverse(l)
	}
	return l
}

func (p *plain) next(node, end int) (int, bool) {
	list, at, ok := p.where(node)
	if !ok || noEnd(end) {
		return 0, false
	}
	at += 2*end - 1
	if at < 0 || at == len(p.lists[list]) {
		return 0, false
	}
	return p.lists[list][at].node, true
}

// call is one that may change an arena: its name and what it is handed.
type call struct {
	name            string
	node, list, end int
}

// told is what a call answers, but the value.
type told struct {
	node int
	err  api.Errno
}

// do makes a call, with a value if it asks for one; what it answers, the value apart.
func do[T any](a *arena.Arena[T], c call, v T) (told, T) {
	var zero T
	switch c.name {
	case "Push":
		node, err := a.Push(c.list, c.end, v)
		return told{node, err}, zero
	case "Pop":
		v, err := a.Pop(c.list, c.end)
		return told{0, err}, v
	case "Unlink":
		v, err := a.Unlink(c.node)
		return told{0, err}, v
	case "Move":
		return told{0, a.Move(c.node, c.list, c.end)}, zero
	case "Set":
		return told{0, a.Set(c.node, v)}, zero
	}
	v, err := a.Get(c.node)
	return told{0, err}, v
}

func (p *plain) do(c call, v int) (told, int) {
	switch c.name {
	case "Push":
		node, err := p.push(c.list, c.end, v)
		return told{node, err}, 0
	case "Pop":
		v, err := p.pop(c.list, c.end)
		return told{0, err}, v
	case "Unlink":
		v, err := p.unlink(c.node)
		return told{0, err}, v
	case "Move":
		return told{0, p.move(c.node, c.list, c.end)}, 0
	case "Set":
		return told{0, p.set(c.node, v)}, 0
	}
	v, err := p.get(c.node)
	return told{0, err}, v
}

// calls are all of them over those nodes, lists and ends.
func calls(nodes, lists, ends []int) []call {
	var all []call
	for _, node := range nodes {
		all = append(all, call{name: "Unlink", node: node}, call{name: "Get", node: node}, call{name: "Set", node: node})
		for _, list := range lists {
			for _, end := range ends {
				all = append(all, call{"Move", node, list, end})
			}
		}
	}
	for _, list := range lists {
		for _, end := range ends {
			all = append(all, call{name: "Push", list: list, end: end}, call{name: "Pop", list: list, end: end})
		}
	}
	return all
}

// around are the numbers below n, and some that may not be.
func around(n int) []int {
	all := []int{math.MinInt, -2, -1, n, n + 1, math.MaxInt}
	for i := range n {
		all = append(all, i)
	}
	return all
}

// cells tells what All goes over.
func cells(a *arena.Arena[int], list, end int) []cell {
	var all []cell
	for node, held := range a.All(list, end) {
		all = append(all, cell{node, held})
	}
	return all
}

// wantLists holds all that can be asked of lists against the plain arena.
func wantLists(t *testing.T, a *arena.Arena[int], p *plain) {
	t.Helper()
	for _, list := range around(len(p.lists)) {
		count := 0
		if !p.noList(list) {
			count = len(p.lists[list])
		}
		if got := a.Len(list); got != count {
			t.Fatalf("Len(%d) = %d, want %d", list, got, count)
		}
		for _, end := range around(2) {
			want := p.from(list, end)
			if got := cells(a, list, end); !slices.Equal(got, want) {
				t.Fatalf("All(%d, %d): %v, want %v", list, end, got, want)
			}
			node, ok := a.Peek(list, end)
			if ok != (len(want) > 0) || ok && node != want[0].node || !ok && node != 0 {
				t.Fatalf("Peek(%d, %d) = %d, %v of %v", list, end, node, ok, want)
			}
		}
	}
}

// wantNodes holds all that can be asked of nodes against the plain arena.
func wantNodes(t *testing.T, a *arena.Arena[int], p *plain) {
	t.Helper()
	for _, node := range around(p.size) {
		list, _, in := p.where(node)
		if got, ok := a.List(node); got != list || ok != in {
			t.Fatalf("List(%d) = %d, %v, want %d, %v", node, got, ok, list, in)
		}
		held, err := p.get(node)
		if got, e := a.Get(node); got != held || e != err {
			t.Fatalf("Get(%d) = %d, %v, want %d, %v", node, got, e, held, err)
		}
		for _, end := range around(2) {
			want, in := p.next(node, end)
			if got, ok := a.Next(node, end); got != want || ok != in {
				t.Fatalf("Next(%d, %d) = %d, %v, want %d, %v", node, end, got, ok, want, in)
			}
		}
	}
}

// wantFree holds the free nodes against the plain arena's, in the order in which Push takes them, on a twin.
func wantFree(t *testing.T, a *arena.Arena[int], p *plain) {
	t.Helper()
	if a.Free() != p.free() {
		t.Fatalf("Free() = %d, want %d", a.Free(), p.free())
	}
	if len(p.lists) == 0 {
		return
	}
	b, q := a.Twin(), p.twin()
	for range p.free() + 1 {
		node, err := b.Push(0, api.Back, 0)
		if want, e := q.push(0, api.Back, 0); node != want || err != e {
			t.Fatalf("Push to a twin: %d, %v, want %d, %v", node, err, want, e)
		}
	}
}

func wantAll(t *testing.T, a *arena.Arena[int], p *plain) {
	t.Helper()
	wantLists(t, a, p)
	wantNodes(t, a, p)
	wantFree(t, a, p)
}

// wantCall makes a call of both.
func wantCall(t *testing.T, a *arena.Arena[int], p *plain, c call, v int) {
	t.Helper()
	got, held := do(a, c, v)
	want, was := p.do(c, v)
	if got != want || held != was {
		t.Fatalf("%+v: %v, %d, want %v, %d", c, got, held, want, was)
	}
}

func made(t *testing.T, nodes, lists int) (*arena.Arena[int], *plain) {
	t.Helper()
	a, err := arena.New[int](nodes, lists)
	if a == nil || err != api.OK {
		t.Fatalf("New(%d, %d): %v", nodes, lists, err)
	}
	return a, newPlain(nodes, lists)
}

// form tells two plain arenas apart by what lies where, whatever is held.
func (p *plain) form() string {
	s := fmt.Sprint(p.used, p.freed)
	for _, l := range p.lists {
		s += "|"
		for _, c := range l {
			s += fmt.Sprint(" ", c.node)
		}
	}
	return s
}

// eachForm comes by each form that an arena of so many nodes and lists can have: a row of calls that leads there, each with its place in it as its value.
func eachForm(nodes, lists int, visit func(row []call)) {
	from := func(n int) []int { return around(n)[6:] }
	steps := calls(from(nodes), from(lists), from(2))
	seen := map[string]bool{newPlain(nodes, lists).form(): true}
	for rows := [][]call{nil}; len(rows) > 0; rows = rows[1:] {
		visit(rows[0])
		for _, c := range steps {
			row := append(slices.Clone(rows[0]), c)
			p := newPlain(nodes, lists)
			for i, c := range row {
				p.do(c, i+1)
			}
			if !seen[p.form()] {
				seen[p.form()] = true
				rows = append(rows, row)
			}
		}
	}
}

// someCall is one by chance, at times with a number that may not be.
func someCall(r *rand.Rand, nodes, lists int) call {
	some := func(n int) int {
		if n == 0 || r.Intn(30) == 0 {
			return around(n)[r.Intn(6)]
		}
		return r.Intn(n)
	}
	names := []string{"Push", "Push", "Push", "Pop", "Unlink", "Move", "Move", "Set", "Get"}
	return call{names[r.Intn(len(names))], some(nodes), some(lists), some(2)}
}
