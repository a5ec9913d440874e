package room_test

import (
	"fmt"
	"math"
	"math/rand"
	"slices"
	"strings"
	"testing"
	"time"

	"winnow/api"
	"winnow/names"
	"winnow/room"
	"winnow/typed"
)

// Texts by chance, against the plain reading of the chapter.
func TestChanceTexts(t *testing.T) {
	counts := map[api.Errno]int{}
	for seed := range int64(2500) {
		m := newMaker(seed, []float64{1, 0.995, 0.98, 0.8}[seed%4])
		text := m.text()
		p := whole(t, text)
		c := m.caps(p.Queues)
		u, fault := typed.Check(p, c)
		if fault != (api.Fault{}) {
			t.Fatalf("%s\n%v: %v", text, c, fault)
		}
		want, wanted := newPlain(p, u, c).judge()
		got, fault := room.Judge(p, u, c)
		if fault != wanted || !sameFacts(got, want) {
			t.Fatalf("%s\n%v: %v; want %v\n%s\nwant\n%s", text, c, fault, wanted, tellAll(p, got), tellAll(p, want))
		}
		counts[fault.Err]++
	}
	for err, least := range map[api.Errno]int{api.OK: 1000, api.ErrFull: 40, api.ErrEmpty: 100, api.ErrWhere: 40, api.ErrLoop: 40} {
		if counts[err] < least {
			t.Errorf("%v was met %d times: %v", err, counts[err], counts)
		}
	}
}

// Guards by chance in views by chance: of each what is told where it is true, where it is false, and behind it.
func TestChanceGuards(t *testing.T) {
	for seed := range int64(1500) {
		m := newMaker(seed, 1)
		m.residents, m.ghosts, m.vars = []string{"a", "b"}, []string{"g"}, []string{"v", "w"}
		text := "policy p { queue a resident; queue b resident; queue g ghost; var v = 0 in -5 .. 9; var w = 0 in -1073741824 .. 1073741824; on " + m.one("miss", "hit a", "hit b", "ghost g") + " { "
		for range 2 + m.Intn(3) {
			text += fmt.Sprintf("if %s { ", m.truth(3))
			if m.Intn(2) == 0 {
				text += fmt.Sprintf("if %s { evict a back; } set v = %s; ", m.some("a"), m.num(2))
			}
		}
		text += fmt.Sprintf("if %s { pass; } else { pass; } pass; ", m.truth(4)) + strings.Repeat("} ", strings.Count(text, "{")-strings.Count(text, "}"))
		p := whole(t, text)
		c := api.Caps{Size: 1 + m.Intn(6)}
		c.Queues = []int{1 + m.Intn(c.Size), 1 + m.Intn(c.Size), 1 + m.Intn(3)}
		u, _ := typed.Check(p, c)
		want, wanted := newPlain(p, u, c).judge()
		if got, fault := room.Judge(p, u, c); fault != wanted || !sameFacts(got, want) {
			t.Fatalf("%s\n%v: %v; want %v\n%s\nwant\n%s", text, c, fault, wanted, tellAll(p, got), tellAll(p, want))
		}
	}
}

func TestP905(t *testing.T) {
	spans := small()
	for _, s := range []api.Span{{Lo: math.MinInt, Hi: math.MaxInt}, {Lo: math.MaxInt, Hi: math.MinInt}, {Lo: -1 << 40, Hi: 1 << 20}, {Lo: 1 << 30, Hi: 1 << 30}} {
		spans = append(spans, s)
	}
	for _, a := range spans {
		for _, b := range spans {
			for name, of := range map[string]func(a, b api.Span) api.Span{"Join": room.Join, "Meet": room.Meet, "Add": room.Add, "Mul": room.Mul, "Min": room.Min, "Max": room.Max} {
				if one, other := of(a, b), of(b, a); one != other {
					t.Errorf("%s of %v, %v: %v; the other way round %v", name, a, b, one, other)
				}
			}
			for _, c := range spans {
				if one, other := room.Join(room.Join(a, b), c), room.Join(a, room.Join(b, c)); one != other {
					t.Errorf("Join of %v, %v, %v: %v, %v", a, b, c, one, other)
				}
				if one, other := room.Meet(room.Meet(a, b), c), room.Meet(a, room.Meet(b, c)); one != other {
					t.Errorf("Meet of %v, %v, %v: %v, %v", a, b, c, one, other)
				}
			}
		}
	}
}

// As many queues, vars and tags as there may be: none stands for another, nor for total or nowhere.
func TestMost(t *testing.T) {
	text := "policy p { "
	c := api.Caps{Size: 100}
	for i := range api.MaxQueues {
		text += fmt.Sprintf("queue q%d %s; ", i, []string{"resident", "ghost"}[i%2])
		c.Queues = append(c.Queues, i+1)
	}
	for i := range api.MaxVars {
		text += fmt.Sprintf("var v%d = 0 in -%d .. %d; ", i, i, i)
	}
	for i := range api.MaxTags {
		text += fmt.Sprintf("tag t%d in %d; ", i, i+1)
	}
	for i := range api.MaxQueues {
		text += fmt.Sprintf("on %s q%d { if v%d < 1 && !empty(q%d) { set v%d = t%d(x) - 7; loop 2 while false { %s } pass; } } ", []string{"hit", "ghost"}[i%2], i, i, (i+3)%16, (i+1)%16, i%4,
			fmt.Sprintf([]string{"evict q%d front; ", "drop q%d back; "}[i%2], i))
	}
	text += "on miss { pass; } }"
	p := whole(t, text)
	u, _ := typed.Check(p, c)
	want, wanted := newPlain(p, u, c).judge()
	got, fault := room.Judge(p, u, c)
	if fault != wanted || fault != (api.Fault{}) || !sameFacts(got, want) {
		t.Fatalf("%v; want %v\n%s\nwant\n%s", fault, wanted, tellAll(p, got), tellAll(p, want))
	}
	last := got[row(t, p, api.NPass, 15)]
	if !last.Nowhere || !last.At[15] || slices.Contains(last.At[:15], true) || last.Lens[15] != (api.Span{Lo: 0, Hi: 16}) || last.Lens[2] != (api.Span{Lo: 1, Hi: 3}) || last.Vars[15] != (api.Span{Lo: -15, Hi: 0}) || last.Vars[0] != (api.Span{}) {
		t.Errorf("%s", tell(p, last))
	}
}

// Whatever is handed in, Judge ends.
func TestP1AnyPolicy(t *testing.T) {
	r := rand.New(rand.NewSource(901))
	odd := func() int {
		return []int{0, 1, 2, 3, -1, -2, r.Intn(20), r.Intn(100), math.MaxInt, math.MinInt}[r.Intn(10)]
	}
	for seed := range int64(2000) {
		m := newMaker(seed%40, 1)
		p := whole(t, m.text())
		c := m.caps(p.Queues)
		u, _ := typed.Check(p, c)
		rows, tags := slices.Clone(p.Rows), slices.Clone(u.Tags)
		for range 1 + r.Intn(2) {
			at := r.Intn(len(rows))
			switch r.Intn(6) {
			case 0:
				rows[at].Kind = r.Intn(api.NCount+2) - 1
			case 1:
				rows[at].N = odd()
			case 2:
				rows[at].Kids = odd()
			case 3:
				rows = rows[:r.Intn(len(rows))+1]
			case 4:
				c.Queues[r.Intn(len(c.Queues))] = odd()
			case 5:
				tags = append(tags, odd())
			}
		}
		p.Rows, u.Tags = rows, tags
		_, fault := room.Judge(p, u, c)
		if err := names.Check(p); err != api.OK && fault != (api.Fault{Err: err}) {
			t.Fatalf("%v; want %v", fault, err)
		}
	}
}

// Expressions that are not of their types are gone through all the same.
func TestP1AnyTypes(t *testing.T) {
	shapes := [][]int{
		{api.NTrue, api.NFalse, api.NSize, api.NTotal, api.NNum},
		{api.NLen, api.NCap, api.NEmpty, api.NFull, api.NAt},
		{api.NMin, api.NMax, api.NMul, api.NDiv, api.NAdd, api.NSub, api.NEq, api.NNe, api.NLt, api.NLe, api.NGt, api.NGe, api.NAnd, api.NOr},
		{api.NInsert, api.NMove, api.NDrop}, {api.NShift, api.NEvict}, {api.NNeg, api.NNot}, {api.NHit, api.NGhost},
	}
	r := rand.New(rand.NewSource(902))
	wrong := 0
	for seed := range int64(1500) {
		m := newMaker(seed, 0.9)
		p := whole(t, m.text())
		c := m.caps(p.Queues)
		u, _ := typed.Check(p, c)
		p.Rows = slices.Clone(p.Rows)
		for at, row := range p.Rows {
			for _, shape := range shapes {
				if r.Intn(4) == 0 && slices.Contains(shape, row.Kind) && row.N == 0 && (row.Kind != api.NEvict || row.Kids == 1) {
					p.Rows[at].Kind = shape[r.Intn(len(shape))]
				}
			}
		}
		if names.Check(p) != api.OK {
			continue
		}
		if _, fault := typed.Types(p); fault != (api.Fault{}) {
			wrong++
		}
		room.Judge(p, u, c)
	}
	if wrong < 300 {
		t.Errorf("only %d were of wrong types", wrong)
	}
}

// within wants something to be done in a moment.
func within(t *testing.T, what string, do func()) {
	t.Helper()
	start := time.Now()
	do()
	if took := time.Since(start); took > 20*time.Second {
		t.Errorf("%s took %v", what, took)
	}
}

// Guards in one another, or one behind the other, as many as there may be, are asked once each.
func TestGuardsInOneAnother(t *testing.T) {
	guard := "v > 0"
	for i := range 55 {
		guard = fmt.Sprintf("(%s || len(a) == %d) && !empty(b)", guard, i%4)
	}
	within(t, "guards in one another", func() {
		p, facts, fault := judged(t, things+"on miss { if "+guard+" { pass; } else { pass; } } }", usual())
		if fault != (api.Fault{}) {
			t.Fatal(fault)
		}
		if got, want := tellFrom(p, facts[row(t, p, api.NPass, 0)], unknown()), "b 1..5, total 1..6, x nowhere"; got != want {
			t.Errorf("%s; want %s", got, want)
		}
	})
	for _, sign := range []string{" && ", " || "} {
		long := strings.Join(slices.Repeat([]string{"!full(g)"}, 5000), sign)
		within(t, "guards one behind the other", func() { wantPasses(t, "on miss { if "+long+" { pass; } }", "g 0..2, x nowhere") })
	}
	likes := strings.Repeat("(", 50) + "true" + strings.Repeat(" == empty(a))", 50)
	within(t, "bools in one another", func() { wantPasses(t, "on miss { if "+likes+" { pass; } }", "x nowhere") })
}

// As many rows as an event may have, each below the one ahead.
func TestDeepTrees(t *testing.T) {
	within(t, "a sum", func() {
		wantPasses(t, "on miss { set v = "+strings.Repeat("1 + ", 7000)+"len(a) - 7000; pass; if "+strings.Repeat("1 - ", 500)+"v == 8 { pass; } }", "v 0..4, x nowhere", "-")
	})
	within(t, "an else-if", func() {
		wantPasses(t, "on miss { "+strings.Repeat("if full(g) { drop g back; } else ", 3000)+"{ pass; } pass; }", "g 0..2, x nowhere", "g 0..2, x nowhere")
	})
	within(t, "doings", func() {
		wantPasses(t, "on miss { "+strings.Repeat("if full(g) { drop g back; } ", 3000)+" pass; }", "g 0..2, x nowhere")
	})
	text := things
	loops, ends := strings.Repeat("loop 2 while true { ", 60), strings.Repeat("} ", 60)
	for i := range api.MaxRules - 1 {
		inner := "pass; set v = 3;"
		if i > 0 {
			inner = fmt.Sprintf("call r%d;", i-1)
		}
		text += fmt.Sprintf("rule r%d { %s%s %s} ", i, loops, inner, ends)
	}
	within(t, "loops", func() {
		p, facts, fault := judged(t, text+"on miss { call r62; pass; } }", usual())
		if fault != (api.Fault{}) {
			t.Fatal(fault)
		}
		if got, want := tellFrom(p, facts[row(t, p, api.NPass, 1)], unknown()), "x nowhere"; got != want {
			t.Errorf("%s; want %s", got, want)
		}
	})
	text = things + "rule r0 { pass; } "
	for i := range 11 {
		text += fmt.Sprintf("rule r%d { call r%d; call r%d; } ", i+1, i, i)
	}
	within(t, "calls", func() { judged(t, text+"on miss { call r11; } }", usual()) })
}

const ordinary = `rule r { if !empty(a) { evict a back; } } on hit a { set v = len(a); move a front; } on ghost g { if v == 3 { forget; } }
	on miss { loop 3 while !empty(b) { evict b back; set v = 1; } call r; if total < size && !full(a) { insert a front; } } }`

// spare is a list with spare room behind it, in which something stands.
func spare[T any](list []T, last T) []T {
	return append(slices.Clone(list), last, last)[:len(list)]
}

func TestP2NothingIsChanged(t *testing.T) {
	p := whole(t, things+ordinary)
	c := usual()
	u, _ := typed.Check(p, c)
	p.Rows, p.Queues, p.Rules, p.On = spare(p.Rows, api.Row{Kind: api.NPass}), spare(p.Queues, api.Queue{Name: "spare"}), spare(p.Rules, -7), spare(p.On, -7)
	u.Vars, u.Tags, u.Rounds, c.Queues = spare(u.Vars, api.Var{Init: -7}), spare(u.Tags, -7), spare(u.Rounds, -7), spare(c.Queues, -7)
	rows, queues, rules, on := slices.Clone(p.Rows[:cap(p.Rows)]), slices.Clone(p.Queues[:cap(p.Queues)]), slices.Clone(p.Rules[:cap(p.Rules)]), slices.Clone(p.On[:cap(p.On)])
	vars, tags, rounds, caps := slices.Clone(u.Vars[:cap(u.Vars)]), slices.Clone(u.Tags[:cap(u.Tags)]), slices.Clone(u.Rounds[:cap(u.Rounds)]), slices.Clone(c.Queues[:cap(c.Queues)])
	if _, fault := room.Judge(p, u, c); fault != (api.Fault{}) {
		t.Fatal(fault)
	}
	if !slices.Equal(rows, p.Rows[:cap(p.Rows)]) || !slices.Equal(queues, p.Queues[:cap(p.Queues)]) || !slices.Equal(rules, p.Rules[:cap(p.Rules)]) || !slices.Equal(on, p.On[:cap(p.On)]) {
		t.Error("the policy is changed")
	}
	if !slices.Equal(vars, u.Vars[:cap(u.Vars)]) || !slices.Equal(tags, u.Tags[:cap(u.Tags)]) || !slices.Equal(rounds, u.Rounds[:cap(u.Rounds)]) || !slices.Equal(caps, c.Queues[:cap(c.Queues)]) {
		t.Error("types or capacities are changed")
	}
}

// fill puts a value in all of a list, its spare room too.
func fill[T any](list []T, value T) {
	for i := range list[:cap(list)] {
		list[:cap(list)][i] = value
	}
}

func TestP2NothingIsShared(t *testing.T) {
	p := whole(t, things+ordinary)
	c := usual()
	u, _ := typed.Check(p, c)
	got, _ := room.Judge(p, u, c)
	want, _ := room.Judge(p, u, c)
	for at := range got {
		fill(got[at].Lens, api.Span{Lo: -7, Hi: -7})
		fill(got[at].Vars, api.Span{Lo: -8, Hi: -8})
		fill(got[at].At, true)
		for i, f := range got[at:] {
			if w := want[at+i]; i > 0 && !sameFact(f, w) {
				t.Fatalf("rows %d and %d share", at, at+i)
			}
		}
		isLen := func(s api.Span) bool { return s.Lo == -7 }
		isVar := func(s api.Span) bool { return s.Lo == -8 }
		if slices.ContainsFunc(got[at].Lens, isVar) || slices.ContainsFunc(got[at].Vars, isLen) {
			t.Fatalf("row %d: lengths and vars share", at)
		}
	}
	if again, fault := room.Judge(p, u, c); fault != (api.Fault{}) || !sameFacts(again, want) {
		t.Errorf("%v\n%s\nwant\n%s", fault, tellAll(p, again), tellAll(p, want))
	}
}

func TestP3Again(t *testing.T) {
	for seed := range int64(40) {
		m := newMaker(seed, 0.95)
		p := whole(t, m.text())
		c := m.caps(p.Queues)
		u, _ := typed.Check(p, c)
		first, fault := room.Judge(p, u, c)
		for range 5 {
			if again, f := room.Judge(p, u, c); f != fault || !sameFacts(again, first) {
				t.Fatalf("%v; it was %v", f, fault)
			}
		}
	}
}
