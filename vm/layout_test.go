package vm_test

import (
	"fmt"
	"math"
	"math/rand"
	"slices"
	"testing"

	"winnow/api"
	"winnow/vm"
)

// nodesOf is how many nodes there are (P1802), sentence by sentence.
func nodesOf(ghost []bool, c api.Caps) int {
	residents, ghosts := 0, 0
	for q, n := range c.Queues {
		if ghost[q] {
			ghosts += n
		} else {
			residents += n
		}
	}
	if c.Size < residents {
		residents = c.Size
	}
	return residents + ghosts
}

// wrongLayout tells what is wrong with a layout beside a state; nothing: "".
func wrongLayout(l api.Layout, s api.State, nodes int) string {
	if len(l.Lists) != len(s.Queues) {
		return "another number of lists than of queues"
	}
	seen := make([]int, nodes)
	stand := func(node int) bool {
		if node < 0 || node >= nodes {
			return false
		}
		seen[node]++
		return true
	}
	under := map[uint64]int{}
	for q, list := range l.Lists {
		if len(list) != len(s.Queues[q]) {
			return "another number of nodes than of entries"
		}
		for k, node := range list {
			if !stand(node) {
				return "a node that there is not"
			}
			under[s.Queues[q][k].Key] = node
		}
	}
	for k, node := range l.Free {
		if !stand(node) || k > 0 && l.Free[k-1] >= node {
			return "free ones that do not rise"
		}
	}
	if slices.ContainsFunc(seen, func(n int) bool { return n != 1 }) {
		return "a node that does not stand just once"
	}
	if len(l.Keys) != len(under) || len(l.Nodes) != len(under) {
		return "another number of keys than of entries"
	}
	for k, key := range l.Keys {
		if node, is := under[key]; !is || node != l.Nodes[k] || k > 0 && l.Keys[k-1] >= key {
			return "a key of another node, or keys that do not rise"
		}
	}
	return ""
}

// wantLaid wants a machine's nodes to lie as P1802 and P1803 say.
func wantLaid(t *testing.T, m *vm.Machine, ghost []bool, c api.Caps) {
	t.Helper()
	l, s := m.Layout(), m.State()
	if wrong := wrongLayout(l, s, nodesOf(ghost, c)); wrong != "" {
		t.Fatalf("%s: %v beside %v", wrong, l, s)
	}
}

// shape is how many nodes there are in each list, how many are free, and the keys.
func shape(l api.Layout) string {
	var lens []int
	for _, list := range l.Lists {
		lens = append(lens, len(list))
	}
	return fmt.Sprint(lens, " ", len(l.Free), " ", l.Keys)
}

func TestP1802Examples(t *testing.T) {
	c := capsOf(2, 2)
	m := open(t, lru(), c)
	want := func(text string) {
		t.Helper()
		wantLaid(t, m, []bool{false}, c)
		if got := shape(m.Layout()); got != text {
			t.Errorf("%s; want %s", got, text)
		}
	}
	want("[0] 2 []")
	m.Access(5)
	want("[1] 1 [5]")
	m.Access(6)
	m.Access(5)
	want("[2] 0 [5 6]")
	if tellState(m.State()) != "5 6 ;" {
		t.Errorf("%v", m.State())
	}
	m.Remove(5)
	want("[1] 1 [6]")
	m.Access(9)
	want("[2] 0 [6 9]")
	m.Access(math.MaxUint64)
	want("[2] 0 [9 18446744073709551615]")
	m.Access(0)
	want("[2] 0 [0 18446744073709551615]")
}

// How many nodes there are: Size counts where the resident queues' sum is above it, and that sum else.
func TestP1802Nodes(t *testing.T) {
	for _, c := range []struct {
		kinds string
		caps  api.Caps
		nodes int
	}{
		{"", capsOf(1), 0}, {"", capsOf(1 << 20), 0}, {"r", capsOf(1, 1), 1}, {"r", capsOf(9, 4), 4}, {"g", capsOf(1, 7), 7}, {"rr", capsOf(5, 2, 3), 5}, {"rr", capsOf(4, 2, 3), 4}, {"rr", capsOf(6, 2, 3), 5},
		{"rgrg", capsOf(4, 3, 2, 2, 1), 7}, {"rgrg", capsOf(9, 3, 2, 2, 1), 8}, {"ggr", capsOf(1, 3, 2, 1), 6}, {"rrr", capsOf(1, 1, 1, 1), 1},
		{"rgggg", capsOf(1<<20, 1, 1<<20, 1<<20, 1<<20, 1<<20-1), 1 << 22},
	} {
		p := api.Program{Miss: -1}
		for _, kind := range c.kinds {
			p.Ghost, p.On = append(p.Ghost, kind == 'g'), append(p.On, -1)
		}
		m := open(t, p, c.caps)
		wantLaid(t, m, p.Ghost, c.caps)
		if l := m.Layout(); len(l.Free) != c.nodes || len(l.Lists) != len(c.kinds) {
			t.Errorf("%s, %v: %d; want %d", c.kinds, c.caps, len(l.Free), c.nodes)
		}
	}
}

// All nodes may be in lists at once, and entries go from list to list then.
func TestP1802Full(t *testing.T) {
	const enter = "miss: len 0, cap 0, lt, else A, total, size, lt, else A, insert 0 0, end, A: len 2, cap 2, lt, else B, total, size, lt, else B, insert 2 0, end, B: len 1, cap 1, lt, else C, insert 1 0, end, C: insert 3 0, end, "
	const events = "q0: shift 0 1 0 0, move 0 0, end, q2: take 2 0, give 2 1, move 2 0, end, q1: forget, insert 1 1, shift 1 0 1 1, end, q3: evict 0 1, move 0 0, shift 1 1 3 0, shift 3 1 1 0, end"
	for _, c := range []api.Caps{capsOf(4, 3, 2, 2, 1), capsOf(5, 3, 2, 2, 1), capsOf(3, 3, 1, 3, 5)} {
		b := openBoth(t, program(enter+events), c)
		for key := range uint64(nodesOf(b.p.Ghost, c)) {
			b.play(t, api.Op{Key: key})
		}
		if l := b.Layout(); len(l.Free) != 0 {
			t.Fatalf("%v: %v", c, l)
		}
		r := rand.New(rand.NewSource(1))
		for range 300 {
			b.play(t, api.Op{Key: uint64(r.Intn(10))})
		}
	}
}

// Asking for it changes nothing, and it is the caller's own.
func TestP1802Apart(t *testing.T) {
	for seed := range int64(300) {
		p, c, r := chance(t, seed+100000)
		m, asked := open(t, p, c), open(t, p, c)
		for _, op := range operations(r, 30) {
			l := asked.Layout()
			lists := append(slices.Clone(l.Lists), l.Free, l.Nodes)
			for i, list := range lists {
				fill(list, -100-i)
			}
			for i, list := range lists {
				if slices.ContainsFunc(list[:cap(list)], func(n int) bool { return n != -100-i }) {
					t.Fatal("two lists share memory")
				}
			}
			fill(l.Keys, 7777)
			fill(l.Lists, nil)
			wantLaid(t, asked, p.Ghost, c)
			if got, want := play(asked, op), play(m, op); !same(got, want) {
				t.Fatalf("%s\n%v: %v; want %v", tell(p), op, got, want)
			}
		}
	}
}

// The same calls lay the nodes alike; a Twin's lie as they must, too, and what the one does is not seen in the other.
func TestP1802Twin(t *testing.T) {
	for seed := range int64(500) {
		p, c, r := chance(t, seed+110000)
		m, again := open(t, p, c), open(t, p, c)
		for _, op := range operations(r, 30) {
			play(m, op)
			play(again, op)
			l := m.Layout()
			other := m.Twin()
			wantLaid(t, other, p.Ghost, c)
			for _, op := range operations(r, 5) {
				play(other, op)
				wantLaid(t, other, p.Ghost, c)
			}
			if fmt.Sprint(l) != fmt.Sprint(m.Layout()) || fmt.Sprint(l) != fmt.Sprint(again.Layout()) {
				t.Fatalf("%s\n%v: %v, then %v; again %v", tell(p), op, l, m.Layout(), again.Layout())
			}
		}
	}
}

// What tells wrong layouts does tell them.
func TestWrongLayout(t *testing.T) {
	s := api.State{Queues: [][]api.Entry{{{Key: 7}, {Key: 5}}, {{Key: 6}}}}
	right := func() api.Layout {
		return api.Layout{Lists: [][]int{{3, 0}, {1}}, Free: []int{2, 4}, Keys: []uint64{5, 6, 7}, Nodes: []int{0, 1, 3}}
	}
	if wrong := wrongLayout(right(), s, 5); wrong != "" {
		t.Error(wrong)
	}
	for n, spoil := range []func(l *api.Layout){
		func(l *api.Layout) { l.Lists = l.Lists[:1] }, func(l *api.Layout) { l.Lists[0] = []int{0, 3} }, func(l *api.Layout) { l.Lists[0] = []int{3} }, func(l *api.Layout) { l.Lists[0][0] = 5 },
		func(l *api.Layout) { l.Free = []int{4, 2} }, func(l *api.Layout) { l.Free = []int{2} }, func(l *api.Layout) { l.Free = []int{2, 4, 5} }, func(l *api.Layout) { l.Free = []int{1, 4} },
		func(l *api.Layout) { l.Keys = []uint64{7, 6, 5} }, func(l *api.Layout) { l.Keys[1] = 4 }, func(l *api.Layout) { l.Keys = l.Keys[:2] }, func(l *api.Layout) { l.Nodes[0] = 1 }, func(l *api.Layout) { l.Nodes = l.Nodes[:2] },
		func(l *api.Layout) { l.Keys, l.Nodes = []uint64{7, 6, 5}, []int{3, 1, 0} },
	} {
		l := right()
		spoil(&l)
		if wrongLayout(l, s, 5) == "" {
			t.Errorf("%d: %v", n, l)
		}
	}
}
