package deno_test

import (
	"fmt"
	"math/rand"
	"slices"
	"strings"
	"testing"

	"winnow/api"
	"winnow/room"
	"winnow/typed"
)

// paper is a text of the published ones under its capacities for a size.
func paper(t *testing.T, n, size int) made {
	t.Helper()
	p := whole(t, published[n])
	c := api.Caps{Size: size}
	for _, queue := range p.Queues {
		c.Queues = append(c.Queues, map[string]int{"out": max(1, size/2), "gone": size - size/10}[queue.Name])
		if last := len(c.Queues) - 1; c.Queues[last] == 0 {
			c.Queues[last] = size
		}
	}
	if p.Name == "s3fifo" {
		c.Queues[1] = size - size/10
	}
	u, fault := typed.Check(p, c)
	if fault != (api.Fault{}) {
		t.Fatalf("%s, %v: %v", p.Name, c, fault)
	}
	return made{p, u, c, published[n]}
}

// keys are asked for by chance, most of them often, in runs and scans.
func keys(r *rand.Rand, n, most int) []uint64 {
	var list []uint64
	for len(list) < n {
		switch r.Intn(4) {
		case 0:
			first := r.Intn(most)
			for i := range r.Intn(most) {
				list = append(list, uint64(first+i))
			}
		default:
			list = append(list, uint64(r.Intn(1+r.Intn(most))))
		}
	}
	return list[:n]
}

// What the judgment and the bound tell of the papers' texts holds of each run.
func TestPublishedSound(t *testing.T) {
	r := rand.New(rand.NewSource(19))
	for n := range published {
		for _, size := range []int{10, 11, 12, 19, 25, 40} {
			d := paper(t, n, size)
			facts, fault := room.Judge(d.p, d.u, d.c)
			if fault != (api.Fault{}) {
				t.Fatalf("%s, %v: %v", d.p.Name, d.c, fault)
			}
			var list []api.Op
			for _, key := range keys(r, 1500, size*3) {
				list = append(list, api.Op{Key: key, Remove: r.Intn(25) == 0})
			}
			wantSound(t, d, facts, list)
		}
	}
}

// plainCache is a queue of keys, from its front to its back, without the language: first in, first out; or by use; or with a bit for each.
type plainCache struct {
	kind string
	size int
	keys []uint64
	bits map[uint64]int
}

func (x *plainCache) access(key uint64) (answer api.Answer) {
	if i := slices.Index(x.keys, key); i >= 0 {
		switch x.kind {
		case "lru":
			x.keys = slices.Insert(slices.Delete(x.keys, i, i+1), 0, key)
		case "clock":
			x.bits[key] = 1
		}
		return api.Answer{Hit: true}
	}
	if len(x.keys) == x.size {
		last := x.size - 1
		for x.bits[x.keys[last]] == 1 {
			back := x.keys[last]
			x.bits[back] = 0
			x.keys = slices.Insert(x.keys[:last], 0, back)
		}
		answer.Evicted = []uint64{x.keys[last]}
		x.keys = x.keys[:last]
	}
	x.keys = slices.Insert(x.keys, 0, key)
	return answer
}

func TestPublishedPlain(t *testing.T) {
	r := rand.New(rand.NewSource(4))
	for n, kind := range []string{"fifo", "lru", "clock"} {
		for _, size := range []int{1, 2, 3, 7, 30} {
			x := &plainCache{kind: kind, size: size, bits: map[uint64]int{}}
			m := paper(t, n, size).machine(t)
			for _, key := range keys(r, 2000, size*2+2) {
				want := x.access(key)
				if got := m.Access(key); !sameAnswer(got, want) {
					t.Fatalf("%s of %d, %d: %v; want %v", kind, size, key, got, want)
				}
			}
			var left []uint64
			for _, e := range m.State().Queues[0] {
				left = append(left, e.Key)
			}
			if !slices.Equal(left, x.keys) {
				t.Errorf("%s of %d: %v; want %v", kind, size, left, x.keys)
			}
		}
	}
}

// Runs of the papers' caches, as chapter 19 tells them.
func TestPublishedExamples(t *testing.T) {
	for _, c := range []struct {
		kind, size int
		keys       []uint64
		answers    string
		state      string
	}{
		{api.LFifo, 2, []uint64{1, 2, 1, 3}, "miss; miss; hit; miss 1", "3 2 ; "},
		{api.LLru, 2, []uint64{1, 2, 1, 3}, "miss; miss; hit; miss 2", "3 1 ; "},
		{api.LClock, 2, []uint64{1, 2, 1, 3}, "miss; miss; hit; miss 2", "3 1 ; "},
		{api.LTwoQ, 4, []uint64{1, 2, 3, 4, 5, 1, 6}, "miss; miss; miss; miss; miss 1; miss 2; miss 3", "6 5 4 / 3 2 / 1 ; "},
		{api.LS3, 10, []uint64{1, 2, 3, 4, 5, 6, 7, 8, 9, 10, 1, 1, 11, 2}, strings.Repeat("miss; ", 10) + "hit; hit; miss 2; miss 3", "11 10 9 8 7 6 5 4 / 2 1 / 3 ; 1"},
		{api.LArc, 2, []uint64{1, 2, 1, 3, 2, 1}, "miss; miss; hit; miss 2; miss 1; miss 3", "/ 1 2 / 3 / ; 0 1"},
	} {
		m := paper(t, c.kind, c.size).machine(t)
		var answers []string
		for _, key := range c.keys {
			answers = append(answers, tellAnswer(m.Access(key)))
		}
		if got := strings.Join(answers, "; "); got != c.answers || tellState(m.State()) != c.state {
			t.Errorf("%d: %s, %s; want %s, %s", c.kind, got, tellState(m.State()), c.answers, c.state)
		}
		misses := strings.Count(c.answers, "miss")
		if s := m.Stats(); s.Hits+s.Misses != len(c.keys) || s.Misses != misses || s.Evictions != len(strings.FieldsFunc(fmt.Sprint(c.answers), func(r rune) bool { return r < '0' || r > '9' })) {
			t.Errorf("%d: %v", c.kind, s)
		}
	}
}
