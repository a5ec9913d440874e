package gen_test

import (
	"math/rand"
	"testing"

	"winnow/api"
	"winnow/fold"
	"winnow/gram"
	"winnow/names"
	"winnow/rule"
	"winnow/typed"
)

// paper is the plan of a text of the published ones under its capacities for a size.
func paper(t *testing.T, text string, size int) (api.Plan, api.Caps) {
	t.Helper()
	rows, _, fault := gram.Parse([]byte(text))
	if fault != (api.Fault{}) {
		t.Fatal(fault)
	}
	p, fault := names.Resolve(rows)
	if fault != (api.Fault{}) {
		t.Fatal(fault)
	}
	c := api.Caps{Size: size}
	for _, queue := range p.Queues {
		n := size
		if queue.Name == "out" {
			n = max(1, size/2)
		}
		if queue.Name == "gone" || p.Name == "s3fifo" && queue.Name == "main" {
			n = size - size/10
		}
		c.Queues = append(c.Queues, n)
	}
	u, fault := typed.Check(p, c)
	if fault != (api.Fault{}) {
		t.Fatalf("%s, %v: %v", p.Name, c, fault)
	}
	plan, err := rule.Lower(p, u, c)
	if err != api.OK {
		t.Fatalf("%s, %v: %v", p.Name, c, err)
	}
	return plan, c
}

// keys are asked for by chance, most of them often, in runs and scans.
func keys(r *rand.Rand, n, most int) []uint64 {
	var list []uint64
	for len(list) < n {
		switch r.Intn(4) {
		case 0:
			first := r.Intn(most)
			for i := range r.Intn(most) {
				list = append(list, uint64(first+i))
			}
		default:
			list = append(list, uint64(r.Intn(1+r.Intn(most))))
		}
	}
	return list[:n]
}

// The papers' texts, as they are and folded: their programs do the same, and none traps.
func TestPublished(t *testing.T) {
	r := rand.New(rand.NewSource(14))
	for n, text := range published {
		for _, size := range []int{10, 11, 19, 40} {
			p, c := paper(t, text, size)
			folded, err := fold.Run(p)
			if err != api.OK {
				t.Fatal(err)
			}
			var list []api.Op
			for _, key := range keys(r, 1000, size*3) {
				list = append(list, api.Op{Key: key, Remove: r.Intn(25) == 0})
			}
			for _, p := range []api.Plan{p, folded} {
				wantAsPlain(t, p)
				traps := map[api.Trap]int{}
				if wantAlike(t, p, c, list, traps); traps[api.TFull]+traps[api.TEmpty]+traps[api.TWhere] > 0 {
					t.Errorf("%d of %d: %v", n, size, traps)
				}
			}
		}
	}
}

// Programs of the papers' texts, to the letter.
func TestPublishedCode(t *testing.T) {
	for _, c := range []struct {
		kind, miss int
		fold       bool
		want       string
	}{
		{api.LLru, 2, false, "move 0 0, end, len 0, num 10, eq, else 9, take 0 1, tell, loose, insert 0 0, end"},
		{api.LLru, 2, true, "move 0 0, end, len 0, num 10, eq, else 7, evict 0 1, insert 0 0, end"},
		{api.LClock, 3, true, "num 1, markx 0, end, len 0, num 10, eq, else 18, loop 10, turn 17, tagend 0 1 0, num 1, eq, quit 17, num 0, markend 0 1 0, shift 0 1 0 0, again 8, evict 0 1, insert 0 0, end"},
	} {
		p, _ := paper(t, published[c.kind], 10)
		if c.fold {
			p, _ = fold.Run(p)
		}
		if x := program(t, p); x.Miss != c.miss || x.On[0] != 0 || tellCode(x.Code) != c.want {
			t.Errorf("%d: %d, %s; want %s", c.kind, x.Miss, tellCode(x.Code), c.want)
		}
	}
}
