package model_test

import (
	"fmt"
	"math/rand"
	"slices"
	"testing"

	"winnow/api"
	"winnow/cost"
	"winnow/deno"
	"winnow/fold"
	"winnow/gen"
	"winnow/gram"
	"winnow/model"
	"winnow/names"
	"winnow/room"
	"winnow/rule"
	"winnow/show"
	"winnow/typed"
	"winnow/vm"
)

func policy(t *testing.T, kind int) api.Policy {
	t.Helper()
	text, err := model.Source(kind)
	rows, _, fault := gram.Parse([]byte(text))
	p, wrong := names.Resolve(rows)
	if err != api.OK || fault != (api.Fault{}) || wrong != (api.Fault{}) {
		t.Fatalf("kind %d: %v, %v, %v", kind, err, fault, wrong)
	}
	return p
}

// load has a text's policy be looked at as a Load does, under capacities: all that there is to refuse.
func load(p api.Policy, c api.Caps) (api.Typed, api.Fault) {
	u, fault := typed.Check(p, c)
	if fault == (api.Fault{}) {
		_, fault = room.Judge(p, u, c)
	}
	if fault == (api.Fault{}) {
		_, fault = cost.Bound(p, u)
	}
	return u, fault
}

func caps(t *testing.T, kind, size int) api.Caps {
	t.Helper()
	c, err := model.Caps(kind, size)
	if err != api.OK {
		t.Fatalf("Caps(%d, %d): %v", kind, size, err)
	}
	return c
}

// Each text is its tree's print, and the policy is called as the kind is.
func TestP1912Printed(t *testing.T) {
	for kind := range least {
		text, _ := model.Source(kind)
		rows, _, fault := gram.Parse([]byte(text))
		if fault != (api.Fault{}) {
			t.Fatalf("kind %d: %v", kind, fault)
		}
		if got, err := show.Print(rows); err != api.OK || got != text {
			t.Errorf("kind %d: %v\n%s", kind, err, got)
		}
		if name, _ := model.Name(kind); policy(t, kind).Name != name {
			t.Errorf("kind %d: %s; want %s", kind, name, policy(t, kind).Name)
		}
	}
}

// Each text loads under its capacities for each size.
func TestP1912Loads(t *testing.T) {
	for kind, first := range least {
		p := policy(t, kind)
		sizes := []int{100, 1000, 4095, 65537, api.MaxCap / 2, api.MaxCap - 1, api.MaxCap}
		for size := first; size < first+60; size++ {
			sizes = append(sizes, size)
		}
		for _, size := range sizes {
			c := caps(t, kind, size)
			if fault := typed.Fit(p, c); fault != (api.Fault{}) {
				t.Errorf("W4: %s, %v: %v", p.Name, c, fault)
			}
			if _, fault := load(p, c); fault != (api.Fault{}) {
				t.Errorf("%s, %v: %v", p.Name, c, fault)
			}
		}
	}
}

// met tells whether capacities fit (W4) and meet a text's requirements, as they are read there.
func met(kind int, ghost []bool, c api.Caps) bool {
	if len(c.Queues) != len(ghost) || c.Size < 1 || c.Size > api.MaxCap {
		return false
	}
	residents, ghosts := 0, 0
	for i, n := range c.Queues {
		if n < 1 || n > api.MaxCap || !ghost[i] && n > c.Size {
			return false
		}
		if ghost[i] {
			ghosts += n
		} else {
			residents += n
		}
	}
	if min(c.Size, residents)+ghosts > api.MaxNodes {
		return false
	}
	switch kind {
	case api.LTwoQ:
		return c.Size >= 2 && c.Queues[0] == c.Size && c.Queues[2] == c.Size
	case api.LS3:
		return c.Size >= 10 && c.Queues[0] == c.Size
	case api.LArc:
		return c.Queues[0] == c.Size && c.Queues[1] == c.Size
	}
	return true
}

// Each text loads under just the capacities that fit it and meet its requirements (T2).
func TestT2(t *testing.T) {
	r := rand.New(rand.NewSource(1912))
	for kind := range least {
		p := policy(t, kind)
		ghost := make([]bool, len(p.Queues))
		for i, q := range p.Queues {
			ghost[i] = q.Ghost
		}
		taken, refused := 0, 0
		for range 2000 {
			c := someCaps(r, ghost)
			_, fault := load(p, c)
			if want := met(kind, ghost, c); want != (fault == api.Fault{}) {
				t.Fatalf("%s, %v: %v", p.Name, c, fault)
			} else if want {
				taken++
			} else {
				refused++
			}
		}
		if taken < 200 || refused < 200 {
			t.Errorf("%s: %d taken, %d refused", p.Name, taken, refused)
		}
	}
}

// someCaps are capacities by chance, near to what may be.
func someCaps(r *rand.Rand, ghost []bool) api.Caps {
	c := api.Caps{Size: 1 + r.Intn([]int{3, 30, api.MaxCap}[r.Intn(3)])}
	for _, g := range ghost {
		n := c.Size
		if g || r.Intn(4) == 0 {
			n = 1 + r.Intn([]int{3, 30, api.MaxCap}[r.Intn(3)])
		}
		c.Queues = append(c.Queues, n)
	}
	switch i := r.Intn(len(ghost)); r.Intn(24) {
	case 0:
		c.Size = []int{0, -1, api.MaxCap + 1}[r.Intn(3)]
	case 1:
		c.Queues[i] = []int{0, -1, api.MaxCap + 1, c.Size + 1}[r.Intn(4)]
	case 2:
		c.Queues = append(c.Queues, 1)
	case 3:
		c.Queues = c.Queues[1:]
	}
	return c
}

// machine runs a text: by its meaning, or as code.
type machine interface {
	Access(key uint64) api.Answer
	State() api.State
}

// machines are a kind's text under its capacities for a size: its meaning, if that is asked for, and its code.
func machines(t *testing.T, kind, size int, meaning bool) []machine {
	t.Helper()
	p, c := policy(t, kind), caps(t, kind, size)
	u, fault := load(p, c)
	if fault != (api.Fault{}) {
		t.Fatalf("%s, %v: %v", p.Name, c, fault)
	}
	plan, err := rule.Lower(p, u, c)
	folded, wrong := fold.Run(plan)
	program, bad := gen.Make(folded)
	m, no := vm.New(program, c)
	if err != api.OK || wrong != api.OK || bad != api.OK || no != api.OK {
		t.Fatalf("%s, %v: %v, %v, %v, %v", p.Name, c, err, wrong, bad, no)
	}
	if !meaning {
		return []machine{m}
	}
	d, e := deno.New(p, u, c)
	if e != api.OK {
		t.Fatalf("%s, %v: %v", p.Name, c, e)
	}
	return []machine{d, m}
}

// wantLike has a machine answer as the cache did.
func wantLike(t *testing.T, m machine, key uint64, hit bool, gone []uint64) {
	t.Helper()
	if a := m.Access(key); a.Trap != api.TNone || a.Hit != hit || !slices.Equal(a.Evicted, gone) {
		t.Fatalf("%T, %d: %v; want %s", m, key, a, tell(hit, gone))
	}
}

// wantStanding has a machine's resident queues have the cached keys, in their order.
func wantStanding(t *testing.T, kind int, m machine, keys []uint64) {
	t.Helper()
	var got []uint64
	for _, q := range [][]int{{0}, {0}, {0}, {0, 2}, {0, 1}, {0, 1}}[kind] {
		for _, e := range m.State().Queues[q] {
			got = append(got, e.Key)
		}
	}
	if !slices.Equal(got, keys) {
		t.Fatalf("%T, kind %d: %v; want %v", m, kind, got, keys)
	}
}

// What the texts mean, and what their code does, is what the caches do (T4).
func TestP1912Answers(t *testing.T) {
	r := rand.New(rand.NewSource(4))
	for kind, first := range least {
		for i := range 60 {
			size := first + i%15 + i/45*r.Intn(60)
			list := machines(t, kind, size, true)
			c := open(t, kind, size)
			var all []uint64
			for n, key := range asked(r, 700, size+1+r.Intn(2*size+3), i%5) {
				key = back(r, all, key, i%5)
				hit, gone := c.Access(key)
				all = append(all, gone...)
				for _, m := range list {
					wantLike(t, m, key, hit, gone)
					if n%50 == 0 {
						wantStanding(t, kind, m, c.Keys())
					}
				}
			}
			for _, m := range list {
				wantStanding(t, kind, m, c.Keys())
			}
		}
	}
}

// All short rows of keys, over small caches.
func TestP1912ShortRows(t *testing.T) {
	for kind, first := range least {
		if kind == api.LS3 {
			continue
		}
		for size := first; size < first+3; size++ {
			base := machines(t, kind, size, true)[0].(*deno.Machine)
			eachRow(7, func(keys []uint64) {
				c, m := open(t, kind, size), base.Twin()
				for _, key := range keys {
					hit, gone := c.Access(key)
					wantLike(t, m, key, hit, gone)
				}
				wantStanding(t, kind, m, c.Keys())
			})
		}
	}
}

// Greater caches, against the code.
func TestP1912Great(t *testing.T) {
	r := rand.New(rand.NewSource(5))
	for kind := range least {
		for i, size := range []int{97, 500, 1999, 5000} {
			within(t, fmt.Sprint("kind ", kind, ", size ", size), func() {
				m := machines(t, kind, size, false)[0]
				c := open(t, kind, size)
				var all []uint64
				for _, key := range asked(r, 60000, 2*size, 4-i) {
					key = back(r, all, key, i%3)
					hit, gone := c.Access(key)
					all = append(all, gone...)
					wantLike(t, m, key, hit, gone)
				}
				wantStanding(t, kind, m, c.Keys())
			})
		}
	}
}
