package engine_test

import (
	"fmt"
	"math"
	"math/rand"
	"runtime"
	"slices"
	"sync"
	"testing"
	"time"

	"winnow/api"
	"winnow/code"
	"winnow/engine"
)

func farm(t *testing.T, e *engine.Engine, crew int, traces [][]api.Op) [][]api.Told {
	t.Helper()
	list, err := e.Farm(crew, traces)
	if err != api.OK || len(list) != len(traces) {
		t.Fatalf("Farm(%d, %d traces): %d, %v", crew, len(traces), len(list), err)
	}
	return list
}

func sameFarm(x, y [][]api.Told) bool { return slices.EqualFunc(x, y, sameTrace) }

// tracesOf are traces by chance, some of them without an operation.
func tracesOf(r *rand.Rand, n, most int) [][]api.Op {
	var list [][]api.Op
	for range n {
		list = append(list, operations(r, r.Intn(most)))
	}
	return list
}

func TestP2004(t *testing.T) {
	e := load(t, lru, capsOf(2, 2))
	e.Play(ops(t, "1 2"))
	traces := [][]api.Op{ops(t, "1 3"), nil, ops(t, "-1 3 2"), {}, ops(t, "3 1")}
	want := []string{"hit, miss 2", "", "miss was 1, miss, hit", "", "miss 1, miss 2"}
	for crew := 1; crew <= api.MaxCrew; crew++ {
		for i, list := range farm(t, e, crew, traces) {
			if got := tell(list); got != want[i] {
				t.Errorf("crew %d, trace %d: %s; want %s", crew, i, got, want[i])
			}
		}
		if tellState(e.State()) != "2 1 ; " || e.Stats() != (api.Stats{Misses: 2}) {
			t.Errorf("crew %d: %v, %v", crew, e.State(), e.Stats())
		}
		wantCrew(t, e, crew, nil, api.OK)
		wantCrew(t, e, crew, [][]api.Op{}, api.OK)
	}
	for _, crew := range []int{0, -1, 9, 10, 1 << 40, math.MinInt, math.MaxInt} {
		wantCrew(t, e, crew, nil, api.ErrArg)
		wantCrew(t, e, crew, traces, api.ErrArg)
	}
	if tellState(e.State()) != "2 1 ; " || e.Stats() != (api.Stats{Misses: 2}) {
		t.Errorf("%v, %v", e.State(), e.Stats())
	}
	// What is played is the engine as it is now, not as it was loaded.
	e.Play(ops(t, "-1 -2 7"))
	if got := tell(farm(t, e, 3, [][]api.Op{ops(t, "7 1")})[0]); got != "hit, miss" {
		t.Errorf("%s", got)
	}
}

// However many play, each trace answers what Play of it does over a twin, and nothing is left of it.
func TestP2007(t *testing.T) {
	for seed := range int64(150) {
		d := chance(t, seed+60000)
		e := load(t, d.text, d.c)
		e.Play(operations(d.Rand, 30))
		still := fmt.Sprint(e.State(), e.Stats(), e.Layout())
		traces := tracesOf(d.Rand, d.Intn(30), 40)
		var want [][]api.Told
		for _, list := range traces {
			want = append(want, e.Twin().Play(list))
		}
		for crew := 1; crew <= api.MaxCrew; crew++ {
			if got := farm(t, e, crew, traces); !sameFarm(got, want) {
				t.Fatalf("%s\ncrew %d, %v: %v; want %v", d.text, crew, traces, got, want)
			}
		}
		if now := fmt.Sprint(e.State(), e.Stats(), e.Layout()); now != still {
			t.Fatalf("%s\n%s; it was %s", d.text, now, still)
		}
	}
}

// A trace's answers do not hang on the others, nor on their order.
func TestP2006Order(t *testing.T) {
	for seed := range int64(100) {
		d := chance(t, seed+70000)
		e := load(t, d.text, d.c)
		e.Play(operations(d.Rand, 30))
		traces := tracesOf(d.Rand, 1+d.Intn(12), 30)
		want := farm(t, e, 1+d.Intn(8), traces)
		for i, list := range traces {
			if got := farm(t, e, 1+d.Intn(8), [][]api.Op{list}); !sameTrace(got[0], want[i]) {
				t.Fatalf("%s\n%v alone: %v; want %v", d.text, list, got[0], want[i])
			}
		}
		order := d.Perm(len(traces))
		var other [][]api.Op
		for _, i := range order {
			other = append(other, traces[i])
		}
		got := farm(t, e, 1+d.Intn(8), append(other, other...))
		for k := range got {
			if i := order[k%len(order)]; !sameTrace(got[k], want[i]) {
				t.Fatalf("%s\n%v: %v; want %v", d.text, traces[i], got[k], want[i])
			}
		}
	}
}

// Many traces, of unlike lengths, so that they come out in another order than they went in.
func TestP2007Many(t *testing.T) {
	r := rand.New(rand.NewSource(2007))
	e := load(t, lru, capsOf(5, 4))
	e.Play(operations(r, 30))
	var traces [][]api.Op
	for i := range 700 {
		n := r.Intn(20)
		if i%50 == 0 {
			n = 20000
		}
		traces = append(traces, operations(r, n))
	}
	want := farm(t, e, 1, traces)
	for i, list := range want {
		if !sameTrace(list, e.Twin().Play(traces[i])) {
			t.Fatalf("trace %d", i)
		}
	}
	for crew := 2; crew <= api.MaxCrew; crew++ {
		if !sameFarm(farm(t, e, crew, traces), want) {
			t.Fatalf("crew %d", crew)
		}
	}
}

// All goroutines have ended when a farm answers.
func TestFarmEnds(t *testing.T) {
	e := load(t, lru, capsOf(5, 4))
	ahead := runtime.NumGoroutine()
	for n := range 400 {
		farm(t, e, 1+n%api.MaxCrew, tracesOf(rand.New(rand.NewSource(int64(n))), n%20, 9))
		e.Farm(0, [][]api.Op{{{Key: 1}}})
	}
	for n := 0; runtime.NumGoroutine() > ahead; n++ {
		if n == 100 {
			t.Fatalf("%d goroutines; there were %d", runtime.NumGoroutine(), ahead)
		}
		// One that has told that it is done may still be on its way out.
		time.Sleep(20 * time.Millisecond)
	}
}

// Twins are apart: each may be used by a goroutine of its own, the first time that a program is asked for, too.
func TestTwinsInGoroutines(t *testing.T) {
	for seed := range int64(60) {
		d := chance(t, seed+80000)
		e := load(t, d.text, d.c)
		e.Play(operations(d.Rand, 20))
		list := operations(d.Rand, 60)
		traces := tracesOf(d.Rand, 5, 20)
		other := load(t, d.text, d.c)
		want, program := e.Twin().Play(list), other.Program()
		twins := []*engine.Engine{e}
		for range 7 {
			twins = append(twins, e.Twin())
		}
		told := make([][]api.Told, len(twins))
		programs := make([]api.Program, len(twins))
		var all sync.WaitGroup
		for i, x := range twins {
			all.Go(func() {
				programs[i] = x.Program()
				x.Farm(2, traces)
				told[i] = x.Play(list)
			})
		}
		all.Wait()
		for i := range twins {
			if !sameTrace(told[i], want) || !code.Same(programs[i], program) {
				t.Fatalf("%s\n%d: %v; want %v", d.text, i, told[i], want)
			}
		}
	}
}
