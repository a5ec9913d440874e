package arena_test

import (
	"math"
	"slices"
	"testing"

	"winnow/api"
	"winnow/arena"
)

func wantPush(t *testing.T, a *arena.Arena[int], list, end, v, node int, err api.Errno) {
	t.Helper()
	if n, e := a.Push(list, end, v); n != node || e != err {
		t.Errorf("Push(%d, %d, %d) = %d, %v, want %d, %v", list, end, v, n, e, node, err)
	}
}

func wantPop(t *testing.T, a *arena.Arena[int], list, end, v int, err api.Errno) {
	t.Helper()
	if got, e := a.Pop(list, end); got != v || e != err {
		t.Errorf("Pop(%d, %d) = %d, %v, want %d, %v", list, end, got, e, v, err)
	}
}

func wantUnlink(t *testing.T, a *arena.Arena[int], node, v int, err api.Errno) {
	t.Helper()
	if got, e := a.Unlink(node); got != v || e != err {
		t.Errorf("Unlink(%d) = %d, %v, want %d, %v", node, got, e, v, err)
	}
}

func wantMove(t *testing.T, a *arena.Arena[int], node, list, end int, err api.Errno) {
	t.Helper()
	if e := a.Move(node, list, end); e != err {
		t.Errorf("Move(%d, %d, %d) = %v, want %v", node, list, end, e, err)
	}
}

func wantCells(t *testing.T, a *arena.Arena[int], list, end int, want ...cell) {
	t.Helper()
	if got := cells(a, list, end); !slices.Equal(got, want) {
		t.Errorf("All(%d, %d): %v, want %v", list, end, got, want)
	}
}

func wantNext(t *testing.T, a *arena.Arena[int], node, end, want int, in bool) {
	t.Helper()
	if got, ok := a.Next(node, end); got != want || ok != in {
		t.Errorf("Next(%d, %d) = %d, %v, want %d, %v", node, end, got, ok, want, in)
	}
}

// three is the chapter's arena, behind its first example's pushes.
func three(t *testing.T) *arena.Arena[int] {
	t.Helper()
	a, _ := made(t, 3, 2)
	wantPush(t, a, 0, api.Back, 7, 0, api.OK)
	wantPush(t, a, 0, api.Back, 8, 1, api.OK)
	wantPush(t, a, 0, api.Front, 9, 2, api.OK)
	return a
}

func TestExample1(t *testing.T) {
	a := three(t)
	wantPush(t, a, 1, api.Back, 5, 0, api.ErrFull)
	wantCells(t, a, 0, api.Front, cell{2, 9}, cell{0, 7}, cell{1, 8})
	wantNext(t, a, 0, api.Front, 2, true)
	wantNext(t, a, 0, api.Back, 1, true)
	wantNext(t, a, 2, api.Front, 0, false)
}

// two goes on with what the second example does.
func two(t *testing.T) *arena.Arena[int] {
	t.Helper()
	a := three(t)
	wantUnlink(t, a, 0, 7, api.OK)
	wantPop(t, a, 0, api.Front, 9, api.OK)
	if list, ok := a.List(0); list != 0 || ok {
		t.Errorf("List(0) = %d, %v of a free node", list, ok)
	}
	if n := a.Free(); n != 2 {
		t.Errorf("Free() = %d", n)
	}
	wantPush(t, a, 1, api.Front, 4, 2, api.OK)
	wantPush(t, a, 1, api.Front, 3, 0, api.OK)
	return a
}

func TestExample2(t *testing.T) { two(t) }

func TestExample3(t *testing.T) {
	a := two(t)
	for range 2 {
		wantMove(t, a, 1, 1, api.Back, api.OK)
		wantCells(t, a, 1, api.Front, cell{0, 3}, cell{2, 4}, cell{1, 8})
	}
	if n := a.Len(0); n != 0 {
		t.Errorf("Len(0) = %d", n)
	}
	wantPop(t, a, 0, api.Back, 0, api.ErrEmpty)
	if v, err := a.Get(3); v != 0 || err != api.ErrArg {
		t.Errorf("Get(3) = %d, %v", v, err)
	}
	if err := a.Set(-1, 0); err != api.ErrArg {
		t.Errorf("Set(-1, 0) = %v", err)
	}
}

func TestExample4(t *testing.T) {
	a, _ := made(t, 0, 0)
	wantPush(t, a, 0, api.Front, 1, 0, api.ErrArg)
	for _, c := range [][2]int{{-1, 1}, {4194305, 1}, {1, 257}} {
		wantNoArena(t, c[0], c[1])
	}
}

func wantNoArena(t *testing.T, nodes, lists int) {
	t.Helper()
	if a, err := arena.New[string](nodes, lists); a != nil || err != api.ErrArg {
		t.Errorf("New(%d, %d) = %v, %v", nodes, lists, a, err)
	}
}

func TestP501(t *testing.T) {
	for _, nodes := range []int{0, 1, 2, 1000, api.MaxNodes - 1, api.MaxNodes} {
		for _, lists := range []int{0, 1, 2, 255, 256} {
			a, err := arena.New[int](nodes, lists)
			if a == nil || err != api.OK || a.Free() != nodes {
				t.Fatalf("New(%d, %d): %v", nodes, lists, err)
			}
			wantPop(t, a, lists, api.Back, 0, api.ErrArg)
			wantUnlink(t, a, nodes, 0, api.ErrArg)
			if lists > 0 {
				wantPop(t, a, lists-1, api.Back, 0, api.ErrEmpty)
			}
			if nodes > 0 {
				wantUnlink(t, a, nodes-1, 0, api.ErrWhere)
			}
		}
		for _, lists := range []int{math.MinInt, -1, 257, 1 << 32, math.MaxInt} {
			wantNoArena(t, nodes, lists)
		}
	}
	for _, nodes := range []int{math.MinInt, -1, api.MaxNodes + 1, 1 << 32, math.MaxInt} {
		for _, lists := range []int{-1, 0, 1, 256, 257} {
			wantNoArena(t, nodes, lists)
		}
	}
}

func TestP501Empty(t *testing.T) {
	for _, nodes := range []int{0, 1, 5} {
		for _, lists := range []int{0, 1, 3} {
			a, p := made(t, nodes, lists)
			wantAll(t, a, p)
		}
	}
}

// All nodes that there may be, in the last list.
func TestP502Most(t *testing.T) {
	a, _ := made(t, api.MaxNodes, 256)
	for i := range api.MaxNodes {
		if node, err := a.Push(255, i%2, i); node != i || err != api.OK {
			t.Fatalf("Push %d: %d, %v", i, node, err)
		}
	}
	wantPush(t, a, 255, api.Front, 1, 0, api.ErrFull)
	wantPush(t, a, 256, api.Front, 1, 0, api.ErrArg)
	if a.Len(255) != api.MaxNodes || a.Free() != 0 {
		t.Errorf("Len(255) = %d, Free() = %d", a.Len(255), a.Free())
	}
	wantPop(t, a, 255, api.Front, api.MaxNodes-2, api.OK)
	wantPop(t, a, 255, api.Back, api.MaxNodes-1, api.OK)
	wantPush(t, a, 0, api.Back, 1, api.MaxNodes-1, api.OK)
}

// Nodes that were freed come first, the last one ahead; then those that never were in a list, rising.
func TestP502Which(t *testing.T) {
	a, _ := made(t, 6, 2)
	for i := range 4 {
		wantPush(t, a, i%2, api.Back, i, i, api.OK)
	}
	wantUnlink(t, a, 2, 2, api.OK)
	wantPop(t, a, 0, api.Front, 0, api.OK)
	wantPop(t, a, 1, api.Back, 3, api.OK)
	for _, node := range []int{3, 0, 2, 4, 5} {
		wantPush(t, a, 0, api.Front, 10+node, node, api.OK)
	}
	wantPush(t, a, 0, api.Front, 1, 0, api.ErrFull)
	wantCells(t, a, 0, api.Back, cell{3, 13}, cell{0, 10}, cell{2, 12}, cell{4, 14}, cell{5, 15})
	wantCells(t, a, 1, api.Front, cell{1, 1})
}

// A number that may not be comes ahead of no free node, of an empty list, of a free node.
func TestP6(t *testing.T) {
	a, _ := made(t, 1, 2)
	for _, c := range calls(around(1), around(2), around(2)) {
		if got, v := do(a, c, 1); wrong(c) && (got != told{0, api.ErrArg} || v != 0) {
			t.Errorf("%+v with a free node: %v, %d", c, got, v)
		}
		a.Unlink(0)
	}
	a.Push(0, api.Front, 7)
	for _, c := range calls(around(1), around(2), around(2)) {
		if !wrong(c) {
			continue
		}
		if got, v := do(a, c, 1); got != (told{0, api.ErrArg}) || v != 0 {
			t.Errorf("%+v with no free node: %v, %d", c, got, v)
		}
	}
}

// wrong tells of a call of an arena of one node and two lists whether it names something that there is not.
func wrong(c call) bool {
	return c.node != 0 || c.list < 0 || c.list > 1 || c.end < 0 || c.end > 1
}

func TestP503Neighbours(t *testing.T) {
	for gone := range 5 {
		a, p := made(t, 5, 1)
		for i := range 5 {
			wantCall(t, a, p, call{name: "Push", end: api.Back}, 10+i)
		}
		wantUnlink(t, a, gone, 10+gone, api.OK)
		p.unlink(gone)
		wantAll(t, a, p)
		wantUnlink(t, a, gone, 0, api.ErrWhere)
		wantAll(t, a, p)
	}
}

func TestP504(t *testing.T) {
	for node := range 4 {
		for list := range 3 {
			for end := range 2 {
				a, p := made(t, 6, 3)
				for i := range 4 {
					wantCall(t, a, p, call{name: "Push", list: i / 3, end: api.Back}, 10+i)
				}
				wantCall(t, a, p, call{"Move", node, list, end}, 0)
				wantAll(t, a, p)
				wantMove(t, a, 4, list, end, api.ErrWhere)
				wantMove(t, a, 6, list, end, api.ErrArg)
				wantAll(t, a, p)
			}
		}
	}
}

func TestP505(t *testing.T) {
	a := three(t)
	if err := a.Set(0, 70); err != api.OK {
		t.Errorf("Set(0, 70) = %v", err)
	}
	if v, err := a.Get(0); v != 70 || err != api.OK {
		t.Errorf("Get(0) = %d, %v", v, err)
	}
	wantCells(t, a, 0, api.Front, cell{2, 9}, cell{0, 70}, cell{1, 8})
	a.Unlink(0)
	if err := a.Set(0, 71); err != api.ErrWhere {
		t.Errorf("Set of a free node: %v", err)
	}
	if v, err := a.Get(0); v != 0 || err != api.ErrWhere {
		t.Errorf("Get of a free node: %d, %v", v, err)
	}
	wantPush(t, a, 0, api.Front, 72, 0, api.OK)
	wantCells(t, a, 0, api.Front, cell{0, 72}, cell{2, 9}, cell{1, 8})
}

// A node that was never in a list is free like one that was.
func TestP505Never(t *testing.T) {
	a, p := made(t, 4, 2)
	for _, node := range []int{0, 3} {
		for _, c := range []call{{name: "Get", node: node}, {name: "Set", node: node}, {name: "Unlink", node: node}, {"Move", node, 1, 1}} {
			wantCall(t, a, p, c, 5)
			if got, v := do(a, c, 5); got != (told{0, api.ErrWhere}) || v != 0 {
				t.Errorf("%+v: %v, %d", c, got, v)
			}
		}
	}
	wantAll(t, a, p)
}

func TestP506(t *testing.T) {
	a := three(t)
	for end, want := range []int{2, 1} {
		if node, ok := a.Peek(0, end); node != want || !ok {
			t.Errorf("Peek(0, %d) = %d, %v", end, node, ok)
		}
		if node, ok := a.Peek(1, end); node != 0 || ok {
			t.Errorf("Peek(1, %d) = %d, %v", end, node, ok)
		}
	}
	a.Move(2, 1, api.Back)
	for node, want := range []int{0, 0, 1} {
		if list, ok := a.List(node); list != want || !ok {
			t.Errorf("List(%d) = %d, %v", node, list, ok)
		}
	}
	wantNext(t, a, 2, api.Front, 0, false)
	wantNext(t, a, 2, api.Back, 0, false)
	wantNext(t, a, 1, api.Front, 0, true)
	wantNext(t, a, 0, api.Front, 0, false)
	if a.Len(0) != 2 || a.Len(1) != 1 || a.Len(2) != 0 || a.Len(-1) != 0 || a.Free() != 0 {
		t.Errorf("Len: %d, %d, %d, %d; Free: %d", a.Len(0), a.Len(1), a.Len(2), a.Len(-1), a.Free())
	}
}

func TestP507Nothing(t *testing.T) {
	a := three(t)
	for _, c := range [][2]int{{1, 0}, {2, 0}, {-1, 0}, {0, 2}, {0, -1}, {math.MaxInt, 0}, {math.MinInt, 1}, {0, math.MaxInt}, {0, math.MinInt}} {
		wantCells(t, a, c[0], c[1])
	}
}

func TestP507Twin(t *testing.T) {
	eachForm(3, 2, func(row []call) {
		a, p := made(t, 3, 2)
		for i, c := range row {
			wantCall(t, a, p, c, i+1)
		}
		for _, c := range calls([]int{0, 1, 2}, []int{0, 1}, []int{0, 1}) {
			b, q := a.Twin(), p.twin()
			wantCall(t, b, q, c, 100)
			wantAll(t, b, q)
			wantAll(t, a, p)
			d, s := b.Twin(), q.twin()
			wantCall(t, b, q, c, 101)
			wantAll(t, d, s)
		}
	})
}

// The one that was there first may change as well.
func TestP507TwinStays(t *testing.T) {
	a := three(t)
	a.Unlink(2)
	b := a.Twin()
	a.Set(0, 70)
	a.Move(1, 1, api.Front)
	wantPush(t, a, 1, api.Back, 5, 2, api.OK)
	wantCells(t, b, 0, api.Front, cell{0, 7}, cell{1, 8})
	wantCells(t, b, 1, api.Front)
	wantPush(t, b, 0, api.Front, 6, 2, api.OK)
	wantCells(t, a, 0, api.Front, cell{0, 70})
	wantCells(t, a, 1, api.Front, cell{1, 8}, cell{2, 5})
}

// Nodes that neither one has had in a list come to each on its own.
func TestP507TwinGrows(t *testing.T) {
	a, _ := made(t, 100, 1)
	for i := range 50 {
		a.Push(0, api.Back, i)
	}
	b := a.Twin()
	for i := range 50 {
		wantPush(t, a, 0, api.Back, 1000+i, 50+i, api.OK)
		wantPush(t, b, 0, api.Front, 2000+i, 50+i, api.OK)
	}
	for node, v := range a.All(0, api.Front) {
		if v != node && v != 950+node {
			t.Errorf("node %d holds %d", node, v)
		}
	}
	for node, v := range b.All(0, api.Front) {
		if v != node && v != 1950+node {
			t.Errorf("the twin's node %d holds %d", node, v)
		}
	}
}
