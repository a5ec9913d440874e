package code_test

import (
	"testing"

	"winnow/api"
	"winnow/code"
	"winnow/fold"
	"winnow/gen"
	"winnow/gram"
	"winnow/names"
	"winnow/rule"
	"winnow/typed"
)

// paper is the program of a text of the published ones under its capacities for a size; folded, or not.
func paper(t *testing.T, text string, size int, folded bool) api.Program {
	t.Helper()
	rows, _, _ := gram.Parse([]byte(text))
	p, _ := names.Resolve(rows)
	c := api.Caps{Size: size}
	for _, queue := range p.Queues {
		n := size
		if queue.Name == "out" {
			n = max(1, size/2)
		}
		if queue.Name == "gone" || p.Name == "s3fifo" && queue.Name == "main" {
			n = size - size/10
		}
		c.Queues = append(c.Queues, n)
	}
	u, fault := typed.Check(p, c)
	if fault != (api.Fault{}) {
		t.Fatalf("%s, %v: %v", p.Name, c, fault)
	}
	plan, _ := rule.Lower(p, u, c)
	if folded {
		plan, _ = fold.Run(plan)
	}
	x, err := gen.Make(plan)
	if err != api.OK {
		t.Fatalf("%s, %v: %v", p.Name, c, err)
	}
	return x
}

func TestPublished(t *testing.T) {
	for _, text := range published {
		for _, size := range []int{10, 11, 100, 1 << 19} {
			for _, folded := range []bool{false, true} {
				if err := holds(t, paper(t, text, size, folded)); err != api.OK {
					t.Fatalf("%s, %d: %v", text, size, err)
				}
			}
		}
	}
}

func TestPublishedLists(t *testing.T) {
	want := `on q0:
0: num 1
1: markx t0
2: end
miss:
3: len q0
4: num 300
5: eq
6: else @21
7: loop 300
8: turn @18
9: tagend q0 back t0
10: num 1
11: eq
12: quit @18
13: num 0
14: markend q0 back t0
15: take q0 back
16: give q0 front
17: again @8
18: take q0 back
19: tell
20: loose
21: insert q0 front
22: end
`
	if list, err := code.List(paper(t, published[2], 300, false)); err != api.OK || list != want {
		t.Errorf("%s%v; want %s", list, err, want)
	}
}
