package fold_test

import (
	"math/rand"
	"slices"
	"testing"

	"winnow/api"
	"winnow/fold"
	"winnow/gram"
	"winnow/names"
	"winnow/rule"
	"winnow/typed"
)

// paper is the plan of a text of the published ones under its capacities for a size.
func paper(t *testing.T, text string, size int) (api.Plan, api.Caps) {
	t.Helper()
	rows, _, fault := gram.Parse([]byte(text))
	if fault != (api.Fault{}) {
		t.Fatal(fault)
	}
	p, fault := names.Resolve(rows)
	if fault != (api.Fault{}) {
		t.Fatal(fault)
	}
	c := api.Caps{Size: size}
	for _, queue := range p.Queues {
		n := size
		if queue.Name == "out" {
			n = max(1, size/2)
		}
		if queue.Name == "gone" || p.Name == "s3fifo" && queue.Name == "main" {
			n = size - size/10
		}
		c.Queues = append(c.Queues, n)
	}
	u, fault := typed.Check(p, c)
	if fault != (api.Fault{}) {
		t.Fatalf("%s, %v: %v", p.Name, c, fault)
	}
	plan, err := rule.Lower(p, u, c)
	if err != api.OK {
		t.Fatalf("%s, %v: %v", p.Name, c, err)
	}
	return plan, c
}

// keys are asked for by chance, most of them often, in runs and scans.
func keys(r *rand.Rand, n, most int) []uint64 {
	var list []uint64
	for len(list) < n {
		switch r.Intn(4) {
		case 0:
			first := r.Intn(most)
			for i := range r.Intn(most) {
				list = append(list, uint64(first+i))
			}
		default:
			list = append(list, uint64(r.Intn(1+r.Intn(most))))
		}
	}
	return list[:n]
}

// The papers' texts: folded they do the same, and none traps.
func TestPublished(t *testing.T) {
	r := rand.New(rand.NewSource(13))
	for n, text := range published {
		for _, size := range []int{10, 11, 19, 40} {
			p, c := paper(t, text, size)
			q := wantAsPlain(t, p, map[int]int{})
			if rowsOf(q) >= rowsOf(p) {
				t.Errorf("%d: %d rows, then %d", n, rowsOf(p), rowsOf(q))
			}
			var list []api.Op
			for _, key := range keys(r, 1000, size*3) {
				list = append(list, api.Op{Key: key, Remove: r.Intn(25) == 0})
			}
			traps := map[api.Trap]int{}
			if wantAlike(t, p, c, list, traps); traps[api.TNone] != len(list) {
				t.Errorf("%d of %d: %v", n, size, traps)
			}
		}
	}
}

// What is left of the papers' texts.
func TestPublishedFolded(t *testing.T) {
	for _, c := range []struct {
		kind int
		want []string
	}{
		{api.LFifo, []string{"none", "block(if(eq(len 0, num 10), block(evict 0 1)), insert 0 0)"}},
		{api.LLru, []string{"block(move 0 0)", "block(if(eq(len 0, num 10), block(evict 0 1)), insert 0 0)"}},
		{api.LClock, []string{"block(mark 0(x, num 1))", "block(if(eq(len 0, num 10), block(loop 10(eq(tag 0(end 0 1), num 1), block(mark 0(end 0 1, num 0), shift 0 1 0 0)), evict 0 1)), insert 0 0)"}},
		{api.LTwoQ, []string{"none",
			"block(if(eq(total, num 10), block(if(le(len 0, num 2), block(evict 2 1), block(if(eq(len 1, num 5), block(drop 1 1)), spill 0 1 1 0)))), if(at 1, block(move 2 0), block(insert 2 0)))",
			"block(move 2 0)",
			"block(if(eq(total, num 10), block(if(le(len 0, num 2), block(evict 2 1), block(if(eq(len 1, num 5), block(drop 1 1)), spill 0 1 1 0)))), insert 0 0)"}},
	} {
		p, _ := paper(t, published[c.kind], 10)
		q := run(t, p)
		var got []string
		for _, rows := range append(slices.Clone(q.On), q.Miss) {
			got = append(got, tellEvent(rows))
		}
		if !slices.Equal(got, c.want) {
			t.Errorf("%d: %q; want %q", c.kind, got, c.want)
		}
		if _, _, _, is := fold.Left(q); is {
			t.Errorf("%d: something is left", c.kind)
		}
	}
}
