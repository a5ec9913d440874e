package engine_test

import (
	"fmt"
	"slices"
	"strings"
	"testing"

	"winnow/api"
	"winnow/code"
	"winnow/engine"
)

const lru = "policy lru { queue q resident; on hit q { move q front; } on miss { if full(q) { evict q back; } insert q front; } }"

func capsOf(size int, queues ...int) api.Caps { return api.Caps{Size: size, Queues: queues} }

func load(t *testing.T, text string, c api.Caps) *engine.Engine {
	t.Helper()
	e, fault := engine.Load([]byte(text), c)
	if fault != (api.Fault{}) || e == nil {
		t.Fatalf("%.3000s\n%v: %v", text, c, fault)
	}
	return e
}

func wantFault(t *testing.T, text string, c api.Caps, want api.Fault) {
	t.Helper()
	if e, got := engine.Load([]byte(text), c); e != nil || got != want {
		t.Errorf("%.300s\n%v: %v, %v; want %v", text, c, e, got, want)
	}
}

// ops is read of such as "7 8 -7": Accesses of 7 and 8, then a Remove of 7.
func ops(t *testing.T, text string) []api.Op {
	t.Helper()
	var list []api.Op
	for _, word := range strings.Fields(text) {
		key, remove := strings.CutPrefix(word, "-")
		var op api.Op
		if _, err := fmt.Sscan(key, &op.Key); err != nil {
			t.Fatal(err)
		}
		op.Remove = remove
		list = append(list, op)
	}
	return list
}

// tell is such as "miss, hit, miss 8, was 1", with what else there is that should not be.
func tell(list []api.Told) string {
	var words []string
	for _, x := range list {
		word := "miss"
		if x.Hit {
			word = "hit"
		}
		for _, key := range x.Evicted {
			word += fmt.Sprint(" ", key)
		}
		if x.Trap != api.TNone {
			word += fmt.Sprint(" trap ", x.Trap)
		}
		if x.Was != 0 {
			word += fmt.Sprint(" was ", x.Was)
		}
		words = append(words, word)
	}
	return strings.Join(words, ", ")
}

// tellState is such as "9 7 / 3:[1 0] ; 5": the queues, the vars.
func tellState(s api.State) string {
	var queues []string
	for _, list := range s.Queues {
		var words []string
		for _, e := range list {
			if len(e.Tags) > 0 {
				words = append(words, fmt.Sprint(e.Key, ":", e.Tags))
			} else {
				words = append(words, fmt.Sprint(e.Key))
			}
		}
		queues = append(queues, strings.Join(words, " "))
	}
	return strings.Join(queues, " / ") + " ; " + strings.Trim(fmt.Sprint(s.Vars), "[]")
}

func wantPlay(t *testing.T, e *engine.Engine, list, answers, state string) {
	t.Helper()
	if got := tell(e.Play(ops(t, list))); got != answers || tellState(e.State()) != state {
		t.Errorf("%s: %s; %s; want %s; %s", list, got, tellState(e.State()), answers, state)
	}
}

func TestExamples(t *testing.T) {
	e := load(t, lru, capsOf(2, 2))
	wantPlay(t, e, "", "", " ; ")
	if e.Stats() != (api.Stats{}) {
		t.Errorf("at first: %v", e.Stats())
	}
	wantPlay(t, e, "7 8 7 9 -9", "miss, miss, hit, miss 8, miss was 1", "7 ; ")
	if want := (api.Stats{Hits: 1, Misses: 3, Evictions: 1, Removals: 1}); e.Stats() != want {
		t.Errorf("%v; want %v", e.Stats(), want)
	}
	wantFault(t, lru, capsOf(2, 3), api.Fault{Err: api.ErrCaps})
	without := strings.Replace(lru, "if full(q) { evict q back; } ", "", 1)
	wantFault(t, without, capsOf(2, 2), api.Fault{Err: api.ErrFull, At: strings.Index(without, "insert")})
	alone := "policy p { queue q resident; on miss { evict q front; } }"
	wantFault(t, alone, capsOf(2, 2), api.Fault{Err: api.ErrEmpty, At: strings.Index(alone, "evict")})
	wantCrew(t, e, 0, nil, api.ErrArg)
	wantCrew(t, e, 9, nil, api.ErrArg)
	wantCrew(t, e, 8, nil, api.OK)
}

func wantCrew(t *testing.T, e *engine.Engine, crew int, traces [][]api.Op, want api.Errno) {
	t.Helper()
	if list, err := e.Farm(crew, traces); err != want || len(list) != 0 {
		t.Errorf("Farm(%d, %v): %v, %v; want %v", crew, traces, list, err, want)
	}
}

// A ghost, a tag, a var, a rule: all that a state has.
const whole = `# counts
policy whole {
	queue a resident;
	queue g ghost;
	tag t in 3;
	var v = 2 in 0 .. 9;
	rule count { set v = v + 1; }
	on hit a { mark x t = t(x) + 2; call count; }
	on ghost g { forget; call count; }
	on miss {
		if full(a) { if full(g) { drop g back; } evict a back to g front; }
		insert a front;
	}
}
`

func TestP2003(t *testing.T) {
	e := load(t, whole, capsOf(2, 2, 2))
	wantPlay(t, e, "", "", " /  ; 2")
	wantPlay(t, e, "1 2 1 1", "miss, miss, hit, hit", "2:[0] 1:[3] /  ; 4")
	wantPlay(t, e, "3 4", "miss 1, miss 2", "4:[0] 3:[0] / 2:[0] 1:[3] ; 4")
	wantPlay(t, e, "-3 -1 -9 -3", "miss was 1, miss was 2, miss, miss", "4:[0] / 2:[0] ; 4")
	wantPlay(t, e, "2 2 4", "miss, miss, hit", "2:[0] 4:[2] /  ; 6")
	if want := (api.Stats{Hits: 3, Misses: 6, Evictions: 2, Removals: 2}); e.Stats() != want {
		t.Errorf("%v; want %v", e.Stats(), want)
	}
	if got := e.Play(nil); len(got) != 0 {
		t.Errorf("Play of nothing: %v", got)
	}
	if got := e.Play(ops(t, "-4")); len(got) != 1 || got[0].Hit || got[0].Evicted != nil || got[0].Trap != api.TNone || got[0].Was != api.RResident {
		t.Errorf("%v", got)
	}
}

// What the engine runs is the folded plan's program.
func TestP2002Program(t *testing.T) {
	for text, want := range map[string]string{
		lru: "on q0: 0: move q0 front 1: end miss: 2: len q0 3: num 2 4: eq 5: else @7 6: evict q0 back 7: insert q0 front 8: end",
		"policy p { queue q resident; on hit q { { } pass; } on miss { if 1 + 1 == size { if full(q) { } else { insert q back; } } } }": "miss: 0: len q0 1: num 2 2: eq 3: else @5 4: jump @6 5: insert q0 back 6: end",
		"policy p { queue q resident; }": "",
	} {
		e := load(t, text, capsOf(2, 2))
		e.Play(ops(t, "1 2 3 -3"))
		for _, x := range []*engine.Engine{e, e.Twin(), e.Twin().Twin()} {
			list, err := code.List(x.Program())
			if got := strings.Join(strings.Fields(list), " "); err != api.OK || got != want {
				t.Errorf("%s: %v\n%s; want\n%s", text, err, got, want)
			}
		}
	}
	p := load(t, whole, capsOf(2, 2, 3)).Program()
	if !slices.Equal(p.Ghost, []bool{false, true}) || !slices.Equal(p.Vars, []api.Var{{Init: 2, Hi: 9}}) || !slices.Equal(p.Tags, []int{3}) || len(p.On) != 2 {
		t.Errorf("%v", p)
	}
}

// Nodes come as chapter 5 says: the one that was freed last, else the least one.
func TestP2002Layout(t *testing.T) {
	e := load(t, whole, capsOf(2, 2, 2))
	want := func(text string) {
		t.Helper()
		if got := fmt.Sprint(e.Layout()); got != text {
			t.Errorf("%s; want %s", got, text)
		}
	}
	want("{[[] []] [0 1 2 3] [] []}")
	e.Play(ops(t, "5 7 1"))
	want("{[[2 1] [0]] [3] [1 5 7] [2 0 1]}")
	e.Remove(7)
	want("{[[2] [0]] [1 3] [1 5] [2 0]}")
	e.Access(6)
	want("{[[1 2] [0]] [3] [1 5 6] [2 0 1]}")
}

func TestP2002Twin(t *testing.T) {
	e := load(t, whole, capsOf(2, 2, 2))
	e.Play(ops(t, "1 2 1 3 -9 -2"))
	twin := e.Twin()
	if twin == e || tellState(twin.State()) != tellState(e.State()) || twin.Stats() != e.Stats() || fmt.Sprint(twin.Layout()) != fmt.Sprint(e.Layout()) {
		t.Errorf("%v, %v, %v; want %v, %v, %v", twin.State(), twin.Stats(), twin.Layout(), e.State(), e.Stats(), e.Layout())
	}
	state, stats := tellState(e.State()), e.Stats()
	wantPlay(t, twin, "3 1 4 5", "hit, miss, miss, miss 3", "5:[0] 4:[0] / 3:[2] ; 5")
	if tellState(e.State()) != state || e.Stats() != stats {
		t.Errorf("%v, %v; it was %s, %v", e.State(), e.Stats(), state, stats)
	}
	state, stats = tellState(twin.State()), twin.Stats()
	wantPlay(t, e, "-3 -1 7", "miss was 1, miss was 2, miss", "7:[0] /  ; 3")
	if tellState(twin.State()) != state || twin.Stats() != stats {
		t.Errorf("%v, %v; it was %s, %v", twin.State(), twin.Stats(), state, stats)
	}
}

// A policy without queues, one without events: all that there is answers.
func TestLittle(t *testing.T) {
	e := load(t, "policy p { }", capsOf(1))
	wantPlay(t, e, "7 7 -7 18446744073709551615", "miss, miss, miss, miss", " ; ")
	if x := e.Layout(); len(x.Lists)+len(x.Free)+len(x.Keys)+len(x.Nodes) > 0 || e.Stats() != (api.Stats{Misses: 3}) {
		t.Errorf("%v, %v", x, e.Stats())
	}
	e = load(t, "policy p { queue q resident; }", capsOf(api.MaxCap, 1))
	wantPlay(t, e, "7 7 -7", "miss, miss, miss", " ; ")
	e = load(t, "policy p { queue q resident; on miss { if !full(q) { insert q back; } } }", capsOf(1, 1))
	wantPlay(t, e, "0 18446744073709551615 0 -18446744073709551615 -0", "miss, miss, hit, miss, miss was 1", " ; ")
}
