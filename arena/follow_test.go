package arena_test

import (
	"iter"
	"math"
	"math/rand"
	"runtime"
	"slices"
	"testing"
	"weak"

	"winnow/api"
	"winnow/arena"
)

// Behind each way that small arenas can lie: each call, with numbers that may not be too.
func TestP508Forms(t *testing.T) {
	for _, size := range [][2]int{{0, 1}, {1, 0}, {1, 1}, {2, 2}, {3, 1}, {3, 2}} {
		nodes, lists := size[0], size[1]
		eachForm(nodes, lists, func(row []call) {
			for _, c := range calls(around(nodes), around(lists), []int{-1, 0, 1, 2}) {
				a, p := made(t, nodes, lists)
				for i, c := range row {
					wantCall(t, a, p, c, i+1)
				}
				wantCall(t, a, p, c, 100)
				wantAll(t, a, p)
			}
		})
	}
}

func TestP508Forms4(t *testing.T) {
	nodes, lists, ends := []int{0, 1, 2, 3}, []int{0, 1}, []int{0, 1}
	eachForm(4, 2, func(row []call) {
		for _, c := range calls(nodes, lists, ends) {
			a, p := made(t, 4, 2)
			for i, c := range row {
				wantCall(t, a, p, c, i+1)
			}
			wantCall(t, a, p, c, 100)
			wantLists(t, a, p)
			wantNodes(t, a, p)
		}
	})
}

// Long rows of calls by chance.
func TestP508Rows(t *testing.T) {
	r := rand.New(rand.NewSource(508))
	for i := range 60 {
		nodes, lists := r.Intn(30)+i%3*60, r.Intn(6)
		a, p := made(t, nodes, lists)
		for i := range 300 {
			wantCall(t, a, p, someCall(r, nodes, lists), i+1)
			if i%10 == 0 {
				wantAll(t, a, p)
			}
		}
		wantAll(t, a, p)
	}
}

// All nodes are told of once, and both ends tell the same, whatever the plain arena says.
func TestP508Whole(t *testing.T) {
	r := rand.New(rand.NewSource(5080))
	a, _ := made(t, 200, 7)
	for i := range 3000 {
		do(a, someCall(r, 200, 7), i)
		count, seen := a.Free(), [200]bool{}
		for list := range 7 {
			ahead, back := cells(a, list, api.Front), cells(a, list, api.Back)
			slices.Reverse(back)
			if !slices.Equal(ahead, back) || len(ahead) != a.Len(list) {
				t.Fatalf("list %d: %v, %v, %d", list, ahead, back, a.Len(list))
			}
			for _, c := range ahead {
				if l, ok := a.List(c.node); l != list || !ok || seen[c.node] {
					t.Fatalf("node %d in list %d: %d, %v", c.node, list, l, ok)
				}
				seen[c.node] = true
			}
			count += len(ahead)
		}
		if count != 200 {
			t.Fatalf("%d nodes in all", count)
		}
	}
}

// Move is Unlink and Push, in all that can be asked from then on.
func TestP509Move(t *testing.T) {
	r := rand.New(rand.NewSource(509))
	for range 2000 {
		a, p := made(t, 8, 3)
		for i := range 30 {
			wantCall(t, a, p, someCall(r, 8, 3), i+1)
		}
		c := call{"Move", r.Intn(8), r.Intn(3), r.Intn(2)}
		b := a.Twin()
		if a.Move(c.node, c.list, c.end) != api.OK {
			continue
		}
		v, _ := b.Unlink(c.node)
		wantPush(t, b, c.list, c.end, v, c.node, api.OK)
		p.move(c.node, c.list, c.end)
		wantAll(t, a, p)
		wantAll(t, b, p)
	}
}

// without tells a list without a node.
func without(all []cell, node int) []cell {
	return slices.DeleteFunc(slices.Clone(all), func(c cell) bool { return c.node == node })
}

func TestP509Others(t *testing.T) {
	r := rand.New(rand.NewSource(5090))
	a, _ := made(t, 20, 3)
	for i := range 5000 {
		var was [3][]cell
		for list := range was {
			was[list] = cells(a, list, api.Front)
		}
		c := someCall(r, 20, 3)
		if c.name == "Pop" {
			c.node, _ = a.Peek(c.list, c.end)
		}
		got, _ := do(a, c, i+1)
		if c.name == "Push" {
			c.node = got.node
		}
		for list := range was {
			if now := cells(a, list, api.Front); !slices.Equal(without(now, c.node), without(was[list], c.node)) {
				t.Fatalf("%+v: list %d was %v, is %v", c, list, was[list], now)
			}
		}
	}
}

// answers makes the calls over an arena of one type: all numbers, errors and truths, beside values that are looked at here alone.
func answers[T any](t *testing.T, row []call, value func(i int) T, same func(v, w T) bool) []int {
	t.Helper()
	a, _ := arena.New[T](12, 3)
	var all []int
	held := map[int]T{}
	for i, c := range row {
		at := c.node
		if c.name == "Pop" {
			at, _ = a.Peek(c.list, c.end)
		}
		got, v := do(a, c, value(i))
		all = append(all, got.node, int(got.err))
		want, ok := held[at]
		if ok = ok && got.err == api.OK; ok && c.name != "Push" && c.name != "Set" && c.name != "Move" && !same(v, want) {
			t.Fatalf("call %d, %+v: %v, want %v", i, c, v, want)
		}
		if got.err == api.OK && c.name == "Push" {
			held[got.node] = value(i)
		}
		if got.err == api.OK && c.name == "Set" {
			held[at] = value(i)
		}
		for end := range 2 {
			for list := range 3 {
				node, ok := a.Peek(list, end)
				all = append(all, node, truth(ok), a.Len(list), a.Free())
				for node, v := range a.All(list, end) {
					if all = append(all, node); !same(v, held[node]) {
						t.Fatalf("node %d holds %v, want %v", node, v, held[node])
					}
				}
			}
			for node := range 12 {
				next, ok := a.Next(node, end)
				list, in := a.List(node)
				all = append(all, next, truth(ok), list, truth(in))
			}
		}
	}
	return all
}

func truth(b bool) int {
	if b {
		return 1
	}
	return 0
}

func equal[T comparable](v, w T) bool { return v == w }

// Unlike types, those that can't be held against each other and those that are not equal to themselves among them.
func TestP510(t *testing.T) {
	r := rand.New(rand.NewSource(510))
	var row []call
	for range 600 {
		row = append(row, someCall(r, 12, 3))
	}
	want := answers(t, row, func(i int) int { return i }, equal)
	type big struct {
		n    int
		rest [500]byte
	}
	nan := func(v, w float64) bool { return math.IsNaN(v) && math.IsNaN(w) }
	is := func(v, w any) bool {
		f, ok := v.(func() int)
		g, also := w.(func() int)
		return ok && also && f() == g()
	}
	for i, got := range [][]int{
		answers(t, row, func(i int) string { return string(rune('a' + i)) }, equal),
		answers(t, row, func(i int) struct{} { return struct{}{} }, equal),
		answers(t, row, func(i int) bool { return i%3 == 0 }, equal),
		answers(t, row, func(i int) int { return 0 }, equal),
		answers(t, row, func(i int) big { return big{n: i} }, equal),
		answers(t, row, func(i int) float64 { return math.NaN() }, nan),
		answers(t, row, func(i int) []int { return []int{i, -i} }, slices.Equal),
		answers(t, row, func(i int) any { return func() int { return i } }, is),
		answers(t, row, func(i int) error { return nil }, func(v, w error) bool { return v == w }),
		answers(t, row, func(i int) api.Fault { return api.Fault{Err: api.ErrFull, At: i} }, equal),
	} {
		if !slices.Equal(got, want) {
			t.Errorf("type %d: other numbers and errors", i)
		}
	}
}

// gone tells what a sequence goes over.
func gone(seq iter.Seq2[int, int]) []cell {
	var all []cell
	for node, held := range seq {
		all = append(all, cell{node, held})
	}
	return all
}

// A sequence goes over the list as it was, whatever is done to the arena.
func TestP5Changed(t *testing.T) {
	want := []cell{{2, 9}, {0, 7}, {1, 8}}
	for _, c := range calls([]int{0, 1, 2}, []int{0, 1}, []int{0, 1}) {
		a := three(t)
		seq := a.All(0, api.Front)
		do(a, c, 100)
		if got := gone(seq); !slices.Equal(got, want) {
			t.Errorf("behind %+v: %v", c, got)
		}
		a.Unlink(0)
		do(a, call{name: "Push"}, 101)
		if got := gone(seq); !slices.Equal(got, want) {
			t.Errorf("behind %+v, again: %v", c, got)
		}
	}
}

func TestP5Within(t *testing.T) {
	a := three(t)
	seq := a.All(0, api.Back)
	var all []cell
	for node, held := range seq {
		for other, more := range seq {
			all = append(all, cell{node*10 + other, held*10 + more})
			if other == node {
				break
			}
		}
		a.Pop(0, api.Back)
		a.Push(1, api.Front, 1000)
	}
	want := []cell{{11, 88}, {1, 78}, {0, 77}, {21, 98}, {20, 97}, {22, 99}}
	if !slices.Equal(all, want) {
		t.Errorf("%v, want %v", all, want)
	}
	wantCells(t, a, 0, api.Back)
}

func TestP5Early(t *testing.T) {
	a := three(t)
	seq := a.All(0, api.Front)
	for stop := range 4 {
		count := 0
		seq(func(node, held int) bool {
			count++
			return count <= stop
		})
		if count != min(stop+1, 3) {
			t.Errorf("left behind %d: %d", stop+1, count)
		}
	}
	next, done := iter.Pull2(seq)
	defer done()
	if node, held, ok := next(); node != 2 || held != 9 || !ok {
		t.Errorf("pulled: %d, %d, %v", node, held, ok)
	}
	a.Unlink(0)
	if node, held, ok := next(); node != 0 || held != 7 || !ok {
		t.Errorf("pulled: %d, %d, %v", node, held, ok)
	}
}

// A sequence of a list that is empty stays one of nothing.
func TestP5Empty(t *testing.T) {
	a := three(t)
	seq := a.All(1, api.Front)
	a.Move(0, 1, api.Front)
	if got := gone(seq); len(got) != 0 {
		t.Errorf("%v", got)
	}
}

// Values are held as they are assigned: what a slice shares it goes on sharing.
func TestP507Assigned(t *testing.T) {
	a, _ := arena.New[[]int](1, 1)
	held := []int{1}
	a.Push(0, api.Back, held)
	b := a.Twin()
	held[0] = 2
	for _, c := range []*arena.Arena[[]int]{a, b} {
		if v, err := c.Get(0); err != api.OK || v[0] != 2 {
			t.Errorf("%v, %v", v, err)
		}
	}
}

func TestP7(t *testing.T) {
	a, p := made(t, 2, 2)
	b, q := made(t, 2, 2)
	wantPush(t, a, 0, api.Back, 7, 0, api.OK)
	wantAll(t, b, q)
	wantPush(t, b, 1, api.Back, 8, 0, api.OK)
	p.push(0, api.Back, 7)
	wantAll(t, a, p)
}

// An arena that New did not make has no nodes and no lists.
func TestP1Zero(t *testing.T) {
	for _, c := range calls(around(1), around(1), around(2)) {
		var a arena.Arena[int]
		if got, v := do(&a, c, 1); got != (told{0, api.ErrArg}) || v != 0 {
			t.Errorf("%+v: %v, %d", c, got, v)
		}
		wantAll(t, &a, newPlain(0, 0))
	}
}

// A hundred thousand calls amid a million nodes: steps for each node would never come to an end.
func TestFewSteps(t *testing.T) {
	const nodes, times = 1 << 20, 100000
	a, _ := made(t, api.MaxNodes, 256)
	for i := range nodes {
		a.Push(0, api.Back, i)
	}
	for i := range times {
		node := nodes/2 + i
		before, _ := a.Next(node, api.Front)
		after, _ := a.Next(node, api.Back)
		list, _ := a.List(node)
		v, _ := a.Get(node)
		if before != node-1 && i == 0 || after != node+1 || list != 0 || v != node {
			t.Fatalf("node %d: %d, %d, %d, %d", node, before, after, list, v)
		}
		a.Set(node, -i)
		a.Move(node, 0, i%2)
		if n, _ := a.Peek(0, i%2); n != node || a.Len(0) != nodes || a.Free() != api.MaxNodes-nodes {
			t.Fatalf("node %d: %d stands at the end", node, n)
		}
		a.Unlink(node - times)
		a.Push(0, api.Back, i)
		a.Pop(0, i%2)
		a.Push(0, i%2, i)
	}
	for range times {
		a, _ = made(t, api.MaxNodes, 1)
	}
	wantPush(t, a, 0, api.Back, 1, 0, api.OK)
}

// What was taken out is not kept.
func TestNotKept(t *testing.T) {
	a, _ := arena.New[*[4]int](3, 1)
	var held []weak.Pointer[[4]int]
	for range 3 {
		v := new([4]int)
		held = append(held, weak.Make(v))
		a.Push(0, api.Back, v)
	}
	a.Pop(0, api.Back)
	a.Unlink(0)
	runtime.GC()
	if held[0].Value() != nil || held[1].Value() == nil || held[2].Value() != nil {
		t.Errorf("kept: %v, %v, %v", held[0].Value(), held[1].Value(), held[2].Value())
	}
	runtime.KeepAlive(a)
}
