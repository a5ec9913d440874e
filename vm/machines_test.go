package vm_test

import (
	"fmt"
	"math/rand"
	"slices"
	"strings"
	"testing"
	"time"

	"winnow/absm"
	"winnow/api"
	"winnow/vm"
)

func open(t *testing.T, p api.Program, c api.Caps) *vm.Machine {
	t.Helper()
	m, err := vm.New(p, c)
	if err != api.OK || m == nil {
		t.Fatalf("%.3000s\n%v: %v", tell(p), c, err)
	}
	return m
}

func tellEntry(e api.Entry) string {
	for _, n := range e.Tags {
		if n != 0 {
			return strings.Join(strings.Fields(fmt.Sprint(e.Key, ":", e.Tags)), ",")
		}
	}
	return fmt.Sprint(e.Key)
}

// tellState is such as "3 2:[1,0] / / 4 / ; 0 5": the queues, the vars.
func tellState(s api.State) string {
	var words []string
	for i, list := range s.Queues {
		if i > 0 {
			words = append(words, "/")
		}
		for _, e := range list {
			words = append(words, tellEntry(e))
		}
	}
	return strings.TrimSpace(strings.Join(words, " ") + " ; " + strings.Trim(fmt.Sprint(s.Vars), "[]"))
}

// tellAnswer is such as "miss 7 8", or a trap.
func tellAnswer(a api.Answer) string {
	if a.Trap != api.TNone {
		word := []string{"", "full", "empty", "where", "fuel"}[a.Trap]
		if a.Hit || len(a.Evicted) > 0 {
			word += " and more"
		}
		return word
	}
	return strings.TrimSpace(map[bool]string{true: "hit ", false: "miss "}[a.Hit] + strings.Trim(fmt.Sprint(a.Evicted), "[]"))
}

func sameAnswer(x, y api.Answer) bool {
	return x.Hit == y.Hit && x.Trap == y.Trap && slices.Equal(x.Evicted, y.Evicted)
}

func sameEntry(x, y api.Entry) bool { return x.Key == y.Key && slices.Equal(x.Tags, y.Tags) }

func sameState(x, y api.State) bool {
	return slices.Equal(x.Vars, y.Vars) && slices.EqualFunc(x.Queues, y.Queues, func(a, b []api.Entry) bool { return slices.EqualFunc(a, b, sameEntry) })
}

// told is all that an operation tells, and what it leaves behind.
type told struct {
	answer api.Answer
	was    int
	used   int
	state  api.State
	stats  api.Stats
}

func same(x, y told) bool {
	return sameAnswer(x.answer, y.answer) && x.was == y.was && x.used == y.used && sameState(x.state, y.state) && x.stats == y.stats
}

// machine is one of this package, or one of absm, against which it is held.
type machine interface {
	Access(key uint64) api.Answer
	Remove(key uint64) int
	Used() int
	State() api.State
	Stats() api.Stats
}

func play(m machine, op api.Op) told {
	var out told
	if op.Remove {
		out.was = m.Remove(op.Key)
	} else {
		out.answer = m.Access(op.Key)
	}
	out.used, out.state, out.stats = m.Used(), m.State(), m.Stats()
	return out
}

// both are a machine and the one of absm that it has to be like.
type both struct {
	*vm.Machine
	like *absm.Machine
	p    api.Program
	c    api.Caps
}

func openBoth(t *testing.T, p api.Program, c api.Caps) both {
	t.Helper()
	like, err := absm.New(p, c)
	if err != api.OK {
		t.Fatalf("%.3000s\n%v: %v", tell(p), c, err)
	}
	return both{open(t, p, c), like, p, c}
}

// play wants the two to tell the same, and the nodes to lie as they must.
func (b both) play(t *testing.T, op api.Op) told {
	t.Helper()
	got, want := play(b.Machine, op), play(b.like, op)
	if !same(got, want) {
		t.Fatalf("%.3000s\n%v, %v:\n%v; want\n%v", tell(b.p), b.c, op, got, want)
	}
	wantLaid(t, b.Machine, b.p.Ghost, b.c)
	return got
}

// operations are Accesses and some Removes, by chance.
func operations(r *rand.Rand, n int) []api.Op {
	list := make([]api.Op, n)
	keys := 2 + r.Intn(12)
	for i := range list {
		list[i] = api.Op{Key: uint64(r.Intn(keys)), Remove: r.Intn(12) == 0}
	}
	return list
}

// within wants something to be done in a moment.
func within(t *testing.T, what string, do func()) {
	t.Helper()
	start := time.Now()
	do()
	if took := time.Since(start); took > 30*time.Second {
		t.Errorf("%s took %v", what, took)
	}
}
