package rule_test

import (
	"math/rand"
	"strings"
	"testing"

	"winnow/api"
	"winnow/typed"
)

// paper is a text of the published ones under its capacities for a size.
func paper(t *testing.T, n, size int) made {
	t.Helper()
	p := whole(t, published[n])
	c := api.Caps{Size: size}
	for _, queue := range p.Queues {
		c.Queues = append(c.Queues, map[string]int{"out": max(1, size/2), "gone": size - size/10}[queue.Name])
		if last := len(c.Queues) - 1; c.Queues[last] == 0 {
			c.Queues[last] = size
		}
	}
	if p.Name == "s3fifo" {
		c.Queues[1] = size - size/10
	}
	u, fault := typed.Check(p, c)
	if fault != (api.Fault{}) {
		t.Fatalf("%s, %v: %v", p.Name, c, fault)
	}
	return made{p, u, c, published[n]}
}

// keys are asked for by chance, most of them often, in runs and scans.
func keys(r *rand.Rand, n, most int) []uint64 {
	var list []uint64
	for len(list) < n {
		switch r.Intn(4) {
		case 0:
			first := r.Intn(most)
			for i := range r.Intn(most) {
				list = append(list, uint64(first+i))
			}
		default:
			list = append(list, uint64(r.Intn(1+r.Intn(most))))
		}
	}
	return list[:n]
}

// The papers' texts, against their meaning: none traps.
func TestPublished(t *testing.T) {
	r := rand.New(rand.NewSource(12))
	for n := range published {
		for _, size := range []int{10, 11, 19, 40} {
			var list []api.Op
			for _, key := range keys(r, 1500, size*3) {
				list = append(list, api.Op{Key: key, Remove: r.Intn(25) == 0})
			}
			if traps := wantLike(t, paper(t, n, size), list); traps[api.TNone] != len(list) {
				t.Errorf("%d of %d: %v", n, size, traps)
			}
		}
	}
}

// Runs of the papers' caches, as chapter 19 tells them.
func TestPublishedExamples(t *testing.T) {
	for _, c := range []struct {
		kind, size int
		keys       []uint64
		answers    string
		state      string
	}{
		{api.LFifo, 2, []uint64{1, 2, 1, 3}, "miss; miss; hit; miss 1", "3 2 ; "},
		{api.LLru, 2, []uint64{1, 2, 1, 3}, "miss; miss; hit; miss 2", "3 1 ; "},
		{api.LClock, 2, []uint64{1, 2, 1, 3}, "miss; miss; hit; miss 2", "3 1 ; "},
		{api.LTwoQ, 4, []uint64{1, 2, 3, 4, 5, 1, 6}, "miss; miss; miss; miss; miss 1; miss 2; miss 3", "6 5 4 / 3 2 / 1 ; "},
		{api.LS3, 10, []uint64{1, 2, 3, 4, 5, 6, 7, 8, 9, 10, 1, 1, 11, 2}, strings.Repeat("miss; ", 10) + "hit; hit; miss 2; miss 3", "11 10 9 8 7 6 5 4 / 2 1 / 3 ; 1"},
		{api.LArc, 2, []uint64{1, 2, 1, 3, 2, 1}, "miss; miss; hit; miss 2; miss 1; miss 3", "/ 1 2 / 3 / ; 0 1"},
	} {
		d := paper(t, c.kind, c.size)
		m := openText(t, d.text, d.c)
		var answers []string
		for _, key := range c.keys {
			answers = append(answers, tellAnswer(m.Access(key)))
		}
		if got := strings.Join(answers, "; "); got != c.answers || tellState(m.State()) != c.state {
			t.Errorf("%d: %s, %s; want %s, %s", c.kind, got, tellState(m.State()), c.answers, c.state)
		}
	}
}
