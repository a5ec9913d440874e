package room_test

import (
	"fmt"
	"math"
	"slices"
	"strings"
	"testing"

	"winnow/api"
	"winnow/gram"
	"winnow/names"
	"winnow/room"
	"winnow/typed"
)

// whole is the policy of a text.
func whole(t *testing.T, text string) api.Policy {
	t.Helper()
	rows, _, fault := gram.Parse([]byte(text))
	if fault != (api.Fault{}) {
		t.Fatalf("%.300s: %v", text, fault)
	}
	p, fault := names.Resolve(rows)
	if fault != (api.Fault{}) {
		t.Fatalf("%.300s: %v", text, fault)
	}
	return p
}

// judged is a text's policy, and what is judged of it.
func judged(t *testing.T, text string, c api.Caps) (api.Policy, []api.Facts, api.Fault) {
	t.Helper()
	p := whole(t, text)
	u, fault := typed.Check(p, c)
	if fault != (api.Fault{}) {
		t.Fatalf("%.300s: %v", text, fault)
	}
	facts, fault := room.Judge(p, u, c)
	if fault != (api.Fault{}) && len(facts) != 0 || fault == (api.Fault{}) && len(facts) != len(p.Rows) {
		t.Fatalf("%.300s: %v, and %d facts", text, fault, len(facts))
	}
	return p, facts, fault
}

// row is the number of the row of that kind, so many behind the first of them.
func row(t *testing.T, p api.Policy, kind, nth int) int {
	t.Helper()
	for at, row := range p.Rows {
		if row.Kind != kind {
			continue
		}
		if nth == 0 {
			return at
		}
		nth--
	}
	t.Fatalf("no row of kind %d", kind)
	return 0
}

func sameFact(x, y api.Facts) bool {
	return x.Reached == y.Reached && slices.Equal(x.Lens, y.Lens) && x.Total == y.Total && slices.Equal(x.Vars, y.Vars) && x.Nowhere == y.Nowhere && slices.Equal(x.At, y.At)
}

func sameFacts(x, y []api.Facts) bool { return slices.EqualFunc(x, y, sameFact) }

// tellSpans writes those spans by their names that are not what they are at first.
func tellSpans(names []string, spans, first []api.Span) []string {
	var list []string
	for i, s := range spans {
		if i >= len(first) || s != first[i] {
			list = append(list, fmt.Sprintf("%s %d..%d", names[i], s.Lo, s.Hi))
		}
	}
	return list
}

// tellFrom writes facts by the names of a policy: spans that are not those of the first facts, and places.
func tellFrom(p api.Policy, f, first api.Facts) string {
	if !f.Reached {
		return "-"
	}
	places := "x"
	if f.Nowhere {
		places += " nowhere"
	}
	var queues []string
	for i, queue := range p.Queues {
		queues = append(queues, queue.Name)
		if f.At[i] {
			places += " " + queue.Name
		}
	}
	list := tellSpans(queues, f.Lens, first.Lens)
	if !first.Reached || f.Total != first.Total {
		list = append(list, fmt.Sprintf("total %d..%d", f.Total.Lo, f.Total.Hi))
	}
	list = append(list, tellSpans(p.Vars, f.Vars, first.Vars)...)
	return strings.Join(append(list, places), ", ")
}

func tell(p api.Policy, f api.Facts) string { return tellFrom(p, f, api.Facts{}) }

func tellAll(p api.Policy, list []api.Facts) string {
	var lines []string
	for at, f := range list {
		if f.Reached {
			lines = append(lines, fmt.Sprintf("%d: %s", at, tell(p, f)))
		}
	}
	return strings.Join(lines, "\n")
}

// things stand in the policies of most tests.
const things = "policy p { queue a resident; queue b resident; queue g ghost; queue h ghost; var v = 0 in -5 .. 9; tag t in 3; "

func usual() api.Caps { return api.Caps{Size: 6, Queues: []int{4, 5, 3, 2}} }

// unknown are the facts of which only usual capacities and ranges are known.
func unknown() api.Facts {
	return api.Facts{Reached: true, Lens: []api.Span{{Lo: 0, Hi: 4}, {Lo: 0, Hi: 5}, {Lo: 0, Hi: 3}, {Lo: 0, Hi: 2}}, Total: api.Span{Lo: 0, Hi: 6}, Vars: []api.Span{{Lo: -5, Hi: 9}}}
}

// wantPasses wants what is told at each pass in an event of those things; what is not written is unknown.
func wantPasses(t *testing.T, inner string, want ...string) {
	t.Helper()
	p, facts, fault := judged(t, things+inner+" }", usual())
	if fault != (api.Fault{}) {
		t.Errorf("%s: %v", inner, fault)
		return
	}
	var got []string
	for at, row := range p.Rows {
		if row.Kind == api.NPass {
			got = append(got, tellFrom(p, facts[at], unknown()))
		}
	}
	if !slices.Equal(got, want) {
		t.Errorf("%s:\n%s\nwant\n%s", inner, strings.Join(got, "\n"), strings.Join(want, "\n"))
	}
}

// wantFault wants a fault at a row of that kind, so many behind the first of them.
func wantFault(t *testing.T, inner string, err api.Errno, kind, nth int) {
	t.Helper()
	p, _, fault := judged(t, things+inner+" }", usual())
	if want := (api.Fault{Err: err, At: row(t, p, kind, nth)}); fault != want {
		t.Errorf("%s: %v; want %v", inner, fault, want)
	}
}

func wantTaken(t *testing.T, inner string) {
	t.Helper()
	if _, _, fault := judged(t, things+inner+" }", usual()); fault != (api.Fault{}) {
		t.Errorf("%s: %v", inner, fault)
	}
}

func TestExamples(t *testing.T) {
	one := api.Caps{Size: 5, Queues: []int{5}}
	p, facts, fault := judged(t, "policy p { queue q resident; on miss { if full(q) { evict q back; } insert q front; } }", one)
	want := "4: q 0..5, total 0..5, x nowhere\n7: q 5..5, total 5..5, x nowhere\n8: q 0..4, total 0..4, x nowhere"
	if got := tellAll(p, facts); fault != (api.Fault{}) || got != want {
		t.Errorf("example 1: %v\n%s\nwant\n%s", fault, got, want)
	}
	for _, c := range []struct {
		inner string
		caps  api.Caps
		err   api.Errno
		kind  int
	}{
		{"on miss { insert q front; }", one, api.ErrFull, api.NInsert},
		{"on miss { evict q back; }", one, api.ErrEmpty, api.NEvict},
		{"on hit q { insert q front; }", one, api.ErrWhere, api.NInsert},
		{"on hit q { evict q back; move q front; }", one, api.ErrWhere, api.NMove},
		{"on hit q { evict q back; move q front; }", api.Caps{Size: 5, Queues: []int{1}}, api.ErrWhere, api.NMove},
	} {
		p, _, fault := judged(t, "policy p { queue q resident; "+c.inner+" }", c.caps)
		if want := (api.Fault{Err: c.err, At: row(t, p, c.kind, 0)}); fault != want {
			t.Errorf("example 2: %s: %v; want %v", c.inner, fault, want)
		}
	}
	p, facts, fault = judged(t, "policy p { queue a resident; queue b resident; on miss { if total == size { if empty(a) { evict b back; } else { evict a back; } } insert a front; } }", api.Caps{Size: 4, Queues: []int{4, 4}})
	if fault != (api.Fault{}) {
		t.Fatalf("example 3: %v", fault)
	}
	if got, want := tell(p, facts[row(t, p, api.NEvict, 0)]), "a 0..0, b 4..4, total 4..4, x nowhere"; got != want {
		t.Errorf("example 3: %s; want %s", got, want)
	}
	p, facts, fault = judged(t, "policy p { queue q resident; tag t in 1; on hit q { loop cap(q) while t(back(q)) == 1 { mark back(q) t = 0; shift q back q front; } evict q back; } }", one)
	if fault != (api.Fault{}) {
		t.Fatalf("example 4: %v", fault)
	}
	if got, want := tell(p, facts[row(t, p, api.NEvict, 0)]), "q 1..5, total 1..5, x q"; got != want {
		t.Errorf("example 4: %s; want %s", got, want)
	}
}

// small are all spans from -3 to 3, those that are none too.
func small() []api.Span {
	var list []api.Span
	for lo := -3; lo <= 3; lo++ {
		for hi := -3; hi <= 3; hi++ {
			list = append(list, api.Span{Lo: lo, Hi: hi})
		}
	}
	return list
}

// numbers are all of a small span.
func numbers(s api.Span) []int {
	var list []int
	for n := s.Lo; n <= s.Hi; n++ {
		list = append(list, n)
	}
	return list
}

// around is the least span that has all numbers of a list.
func around(list []int) api.Span {
	if len(list) == 0 {
		return api.Span{Lo: 1, Hi: 0}
	}
	return api.Span{Lo: slices.Min(list), Hi: slices.Max(list)}
}

func TestP901(t *testing.T) {
	for _, a := range small() {
		for _, b := range small() {
			if got, want := room.Join(a, b), around(append(numbers(a), numbers(b)...)); got != want {
				t.Errorf("Join(%v, %v): %v; want %v", a, b, got, want)
			}
			both := slices.DeleteFunc(numbers(a), func(n int) bool { return n < b.Lo || n > b.Hi })
			if got, want := room.Meet(a, b), around(both); got != want {
				t.Errorf("Meet(%v, %v): %v; want %v", a, b, got, want)
			}
		}
	}
}

// Join and Meet know no bound.
func TestP901AnyInts(t *testing.T) {
	all, none := api.Span{Lo: math.MinInt, Hi: math.MaxInt}, api.Span{Lo: 1, Hi: 0}
	for _, c := range []struct{ a, b, join, meet api.Span }{
		{all, api.Span{Lo: 3, Hi: 1 << 40}, all, api.Span{Lo: 3, Hi: 1 << 40}},
		{api.Span{Lo: math.MinInt, Hi: -1}, api.Span{Lo: 0, Hi: math.MaxInt}, all, none},
		{api.Span{Lo: math.MaxInt, Hi: math.MinInt}, all, all, none},
		{api.Span{Lo: math.MaxInt, Hi: math.MaxInt}, all, all, api.Span{Lo: math.MaxInt, Hi: math.MaxInt}},
		{api.Span{Lo: math.MaxInt, Hi: math.MinInt}, api.Span{Lo: 9, Hi: -9}, none, none},
	} {
		if got := room.Join(c.a, c.b); got != c.join {
			t.Errorf("Join(%v, %v): %v", c.a, c.b, got)
		}
		if got := room.Meet(c.a, c.b); got != c.meet {
			t.Errorf("Meet(%v, %v): %v", c.a, c.b, got)
		}
	}
}

// signs are the calls of P902 by the kind of row that they are for; NNeg's takes the first span alone.
func signs() map[int]func(a, b api.Span) api.Span {
	return map[int]func(a, b api.Span) api.Span{
		api.NAdd: room.Add, api.NSub: room.Sub, api.NMul: room.Mul, api.NDiv: room.Div, api.NMin: room.Min, api.NMax: room.Max,
		api.NNeg: func(a, _ api.Span) api.Span { return room.Neg(a) },
	}
}

// Of small spans, every number with every number.
func TestP902(t *testing.T) {
	for kind, of := range signs() {
		for _, a := range small() {
			for _, b := range small() {
				var list []int
				for _, m := range numbers(a) {
					for _, n := range numbers(b) {
						list = append(list, reckon(kind, m, n))
					}
				}
				want := around(list)
				if kind == api.NNeg && b.Lo > b.Hi {
					continue
				}
				if got := of(a, b); got != want {
					t.Errorf("kind %d of %v, %v: %v; want %v", kind, a, b, got, want)
				}
			}
		}
	}
}

// Of spans of any ints, by their ends and all numbers at which an operation may turn.
func TestP902AnyInts(t *testing.T) {
	var spans []api.Span
	ends := []int{math.MinInt, math.MinInt + 1, -1 << 40, -1<<30 - 1, -1 << 30, 1 - 1<<30, -32768, -7, -1, 0, 1, 2, 10, 46341, 1<<30 - 1, 1 << 30, 1<<30 + 1, 1 << 33, math.MaxInt}
	for _, lo := range ends {
		for _, hi := range ends {
			spans = append(spans, api.Span{Lo: lo, Hi: hi})
		}
	}
	for kind, of := range signs() {
		for _, a := range spans {
			for _, b := range spans {
				want := reckoned(kind, a, b)
				if kind == api.NNeg && b.Lo > b.Hi {
					continue
				}
				if got := of(a, b); got != want {
					t.Fatalf("kind %d of %v, %v: %v; want %v", kind, a, b, got, want)
				}
			}
		}
	}
}

func TestP903ErrorsAtZero(t *testing.T) {
	p := whole(t, things+"on miss { loop 3 while true { evict a back; } evict b back; } }")
	right, _ := typed.Check(p, usual())
	shape, caps, rang := api.Fault{Err: api.ErrShape}, api.Fault{Err: api.ErrCaps}, api.Fault{Err: api.ErrRange}
	want := func(what string, p api.Policy, u api.Typed, c api.Caps, want api.Fault) {
		t.Helper()
		if facts, fault := room.Judge(p, u, c); fault != want || len(facts) != 0 {
			t.Errorf("%s: %v, %v; want %v", what, fault, facts, want)
		}
	}
	wrong := p
	wrong.Miss = -1
	want("nothing", api.Policy{}, api.Typed{}, api.Caps{}, shape)
	want("no policy", wrong, right, usual(), shape)
	want("no policy, nothing else", wrong, api.Typed{}, api.Caps{}, shape)
	want("no capacities", p, right, api.Caps{}, caps)
	want("no capacities, no types", p, api.Typed{}, api.Caps{}, caps)
	want("too large a queue", p, right, api.Caps{Size: 6, Queues: []int{7, 5, 3, 2}}, caps)
	want("too few queues", p, right, api.Caps{Size: 6, Queues: []int{4, 5, 3}}, caps)
	want("no types", p, api.Typed{}, usual(), rang)
	rounds := func(at, n int) []int {
		list := slices.Clone(right.Rounds)
		list[at] = n
		return list
	}
	loop := row(t, p, api.NLoop, 0)
	for _, u := range []api.Typed{
		{Tags: right.Tags, Rounds: right.Rounds},
		{Vars: append(slices.Clone(right.Vars), api.Var{}), Tags: right.Tags, Rounds: right.Rounds},
		{Vars: right.Vars, Rounds: right.Rounds},
		{Vars: right.Vars, Tags: []int{3, 3}, Rounds: right.Rounds},
		{Vars: right.Vars, Tags: right.Tags},
		{Vars: right.Vars, Tags: right.Tags, Rounds: right.Rounds[1:]},
		{Vars: right.Vars, Tags: right.Tags, Rounds: append(slices.Clone(right.Rounds), 0)},
		{Vars: []api.Var{{Init: 1, Lo: 2, Hi: 3}}, Tags: right.Tags, Rounds: right.Rounds},
		{Vars: []api.Var{{Init: 4, Lo: 2, Hi: 3}}, Tags: right.Tags, Rounds: right.Rounds},
		{Vars: []api.Var{{Init: 2, Lo: 3, Hi: 1}}, Tags: right.Tags, Rounds: right.Rounds},
		{Vars: []api.Var{{Init: 0, Lo: -1<<30 - 1, Hi: 1}}, Tags: right.Tags, Rounds: right.Rounds},
		{Vars: []api.Var{{Init: 0, Lo: -1, Hi: 1<<30 + 1}}, Tags: right.Tags, Rounds: right.Rounds},
		{Vars: []api.Var{{Init: 1 << 40, Lo: 1 << 40, Hi: 1 << 40}}, Tags: right.Tags, Rounds: right.Rounds},
		{Vars: []api.Var{{Init: -1 << 40, Lo: -1 << 40, Hi: -1 << 40}}, Tags: right.Tags, Rounds: right.Rounds},
		{Vars: right.Vars, Tags: []int{0}, Rounds: right.Rounds},
		{Vars: right.Vars, Tags: []int{-1}, Rounds: right.Rounds},
		{Vars: right.Vars, Tags: []int{256}, Rounds: right.Rounds},
		{Vars: right.Vars, Tags: right.Tags, Rounds: rounds(loop, -1)},
		{Vars: right.Vars, Tags: right.Tags, Rounds: rounds(loop, 1<<22+1)},
		{Vars: right.Vars, Tags: right.Tags, Rounds: rounds(0, -1)},
		{Vars: right.Vars, Tags: right.Tags, Rounds: rounds(len(p.Rows)-1, 1<<22+1)},
	} {
		want(fmt.Sprint(u), p, u, usual(), rang)
	}
	behind := api.Fault{Err: api.ErrEmpty, At: row(t, p, api.NEvict, 0)}
	for _, u := range []api.Typed{
		right,
		{Vars: []api.Var{{Init: 1 << 30, Lo: -1 << 30, Hi: 1 << 30}}, Tags: []int{255}, Rounds: rounds(loop, 1<<22)},
		{Vars: []api.Var{{Init: -1 << 30, Lo: -1 << 30, Hi: -1 << 30}}, Tags: []int{1}, Rounds: rounds(1, 1<<22)},
	} {
		want(fmt.Sprint(u), p, u, usual(), behind)
	}
	want("no rounds", p, api.Typed{Vars: right.Vars, Tags: right.Tags, Rounds: rounds(loop, 0)}, usual(), api.Fault{Err: api.ErrEmpty, At: row(t, p, api.NEvict, 1)})
}

func TestP903FirstViews(t *testing.T) {
	wantPasses(t, "on miss { pass; }", "x nowhere")
	wantPasses(t, "on hit a { pass; }", "a 1..4, total 1..6, x a")
	wantPasses(t, "on ghost h { pass; } on hit b { pass; }", "h 1..2, x h", "b 1..5, total 1..6, x b")
	for _, c := range []struct {
		text string
		caps api.Caps
		want string
	}{
		{"policy p { on miss { pass; } }", api.Caps{Size: 7}, "3: total 0..0, x nowhere"},
		{"policy p { queue g ghost; on ghost g { pass; } }", api.Caps{Size: 7, Queues: []int{9}}, "4: g 1..9, total 0..0, x g"},
		{"policy p { queue a resident; queue b resident; on hit a { pass; } }", api.Caps{Size: 1, Queues: []int{1, 1}}, "5: a 1..1, b 0..0, total 1..1, x a"},
		{"policy p { queue a resident; queue b resident; on hit a { pass; } }", api.Caps{Size: 3, Queues: []int{3, 3}}, "5: a 1..3, b 0..2, total 1..3, x a"},
		{"policy p { queue a resident; queue b resident; on miss { pass; } }", api.Caps{Size: 9, Queues: []int{3, 4}}, "5: a 0..3, b 0..4, total 0..7, x nowhere"},
		{"policy p { queue a resident; on hit a { pass; } }", api.Caps{Size: 1 << 20, Queues: []int{1 << 20}}, "4: a 1..1048576, total 1..1048576, x a"},
	} {
		p, facts, fault := judged(t, c.text, c.caps)
		if got := tellAll(p, facts); fault != (api.Fault{}) || got != c.want {
			t.Errorf("%s: %v, %s; want %s", c.text, fault, got, c.want)
		}
	}
}

// Guards, in the view of a hit in b: where it is true, where it is false, and where both ways meet.
func TestP903Guards(t *testing.T) {
	const none, all = "-", "b 1..5, total 1..6, x b"
	for _, c := range []struct{ guard, yes, no, both string }{
		{"true", all, none, all},
		{"false", none, all, all},
		{"!true", none, all, all},
		{"!!true", all, none, all},
		{"empty(a)", "a 0..0, b 1..5, total 1..5, x b", "a 1..4, b 1..5, total 2..6, x b", all},
		{"!empty(a)", "a 1..4, b 1..5, total 2..6, x b", "a 0..0, b 1..5, total 1..5, x b", all},
		{"empty(b)", none, all, all},
		{"full(a)", "a 4..4, b 1..2, total 5..6, x b", "a 0..3, b 1..5, total 1..6, x b", all},
		{"full(b)", "a 0..1, b 5..5, total 5..6, x b", "b 1..4, total 1..6, x b", all},
		{"empty(g)", "b 1..5, g 0..0, total 1..6, x b", "b 1..5, g 1..3, total 1..6, x b", all},
		{"full(g)", "b 1..5, g 3..3, total 1..6, x b", "b 1..5, g 0..2, total 1..6, x b", all},
		{"at(b)", all, none, all},
		{"at(a)", none, all, all},
		{"at(g)", none, all, all},
		{"total == size", "a 1..4, b 2..5, total 6..6, x b", "b 1..5, total 1..5, x b", all},
		{"total == 0", none, all, all},
		{"total < 3", "a 0..1, b 1..2, total 1..2, x b", "b 1..5, total 3..6, x b", all},
		{"len(a) == 2", "a 2..2, b 1..4, total 3..6, x b", all, all},
		{"len(a) == len(b)", "a 1..4, b 1..4, total 2..6, x b", all, all},
		{"len(a) != len(b)", all, "a 1..4, b 1..4, total 2..6, x b", all},
		{"len(a) > 2", "a 3..4, b 1..3, total 4..6, x b", "a 0..2, b 1..5, total 1..6, x b", all},
		{"2 < len(a)", "a 3..4, b 1..3, total 4..6, x b", "a 0..2, b 1..5, total 1..6, x b", all},
		{"len(a) >= 3", "a 3..4, b 1..3, total 4..6, x b", "a 0..2, b 1..5, total 1..6, x b", all},
		{"len(a) <= 2", "a 0..2, b 1..5, total 1..6, x b", "a 3..4, b 1..3, total 4..6, x b", all},
		{"len(b) < len(a)", "a 2..4, b 1..3, total 3..6, x b", all, all},
		{"len(b) <= len(a)", "a 1..4, b 1..4, total 2..6, x b", all, all},
		{"len(a) > len(b)", "a 2..4, b 1..3, total 3..6, x b", all, all},
		{"len(a) >= len(b)", "a 1..4, b 1..4, total 2..6, x b", all, all},
		{"len(a) < len(a)", "a 1..3, b 1..5, total 2..6, x b", all, all},
		{"len(a) != len(a)", all, all, all},
		{"len(a) == len(a) - 1", "a 0..3, b 1..5, total 1..6, x b", all, all},
		{"len(a) + 4 < len(a)", none, all, all},
		{"len(a) + 3 < len(a)", "a 4..4, b 1..2, total 5..6, x b", all, all},
		{"len(a) + 1 < len(a)", "a 2..4, b 1..4, total 3..6, x b", all, all},
		{"len(a) < len(a) - 2", none, all, all},
		{"len(a) == len(a) + 3", none, all, all},
		{"len(a) + 3 == len(a)", "a 3..4, b 1..3, total 4..6, x b", all, all},
		{"len(a) != len(a) + 3", all, none, all},
		{"len(a) + 3 != len(a)", all, "a 3..4, b 1..3, total 4..6, x b", all},
		{"len(a) != 4", "a 0..3, b 1..5, total 1..6, x b", "a 4..4, b 1..2, total 5..6, x b", all},
		{"len(a) != 0", "a 1..4, b 1..5, total 2..6, x b", "a 0..0, b 1..5, total 1..5, x b", all},
		{"0 != len(a)", "a 1..4, b 1..5, total 2..6, x b", "a 0..0, b 1..5, total 1..5, x b", all},
		{"len(a) != 2", all, "a 2..2, b 1..4, total 3..6, x b", all},
		{"v == 9", "b 1..5, total 1..6, v 9..9, x b", "b 1..5, total 1..6, v -5..8, x b", all},
		{"v == 10", none, all, all},
		{"v < len(a)", "b 1..5, total 1..6, v -5..3, x b", "b 1..5, total 1..6, v 0..9, x b", all},
		{"len(a) < v", "b 1..5, total 1..6, v 1..9, x b", "b 1..5, total 1..6, v -5..4, x b", all},
		{"v + 1 == 10", all, all, all},
		{"v + 1 == 11", none, all, all},
		{"v + 1 != 11", all, none, all},
		{"v + 1 < -4", none, all, all},
		{"v + 1 <= -4", all, all, all},
		{"10 < v + 1", none, all, all},
		{"10 <= v + 1", all, all, all},
		{"t(x) > 3", none, all, all},
		{"t(x) >= 0", all, none, all},
		{"cap(a) == 4", all, none, all},
		{"size < cap(b)", none, all, all},
		{"2 != 2", none, all, all},
		{"2 < 2", none, all, all},
		{"2 <= 2", all, none, all},
		{"true == at(a)", all, all, all},
		{"empty(a) != full(b)", all, all, all},
		{"empty(a) && full(b)", "a 0..0, b 5..5, total 5..5, x b", all, all},
		{"empty(a) && len(a) == 1", none, all, all},
		{"!(empty(a) && full(b))", all, "a 0..0, b 5..5, total 5..5, x b", all},
		{"empty(a) || full(b)", "a 0..1, b 1..5, total 1..6, x b", "a 1..4, b 1..4, total 2..6, x b", all},
		{"full(b) || len(a) > 1", "b 1..5, total 3..6, x b", "a 0..1, b 1..4, total 1..5, x b", all},
		{"full(a) && at(g) || v > 3", "b 1..5, total 1..6, v 4..9, x b", "b 1..5, total 1..6, v -5..3, x b", all},
		{"min(v, 3) * 2 > 6", none, all, all},
		{"max(v, 3) / 2 < 1", none, all, all},
		{"-v > 5", none, all, all},
		{"-v >= 5 - 1 * 0", all, all, all},
		{"v - 1 > 8", none, all, all},
	} {
		wantPasses(t, "on hit b { if "+c.guard+" { pass; } else { pass; } pass; }", c.yes, c.no, c.both)
	}
}

// Numbers at the ends of the language's.
func TestP903GuardsAtTheEnds(t *testing.T) {
	for _, c := range []struct{ guard, yes, no string }{
		{"w < -1073741824", "-", "w -1073741824..1073741824"},
		{"w <= -1073741824", "w -1073741824..-1073741824", "w -1073741823..1073741824"},
		{"w > 1073741824", "-", "w -1073741824..1073741824"},
		{"w != 1073741824", "w -1073741824..1073741823", "w 1073741824..1073741824"},
		{"w + 1073741824 == 1073741824 + 1", "w -1073741824..1073741824", "w -1073741824..1073741824"},
		{"w * w < 0 - 1073741824", "-", "w -1073741824..1073741824"},
		{"w - w > 1073741823", "w -1073741824..1073741824", "w -1073741824..1073741824"},
		{"w < 1073741824 * 2", "w -1073741824..1073741823", "w 1073741824..1073741824"},
	} {
		p, facts, fault := judged(t, "policy p { var w = 0 in -1073741824 .. 1073741824; on miss { if "+c.guard+" { pass; } else { pass; } } }", api.Caps{Size: 1})
		if fault != (api.Fault{}) {
			t.Fatalf("%s: %v", c.guard, fault)
		}
		for n, want := range []string{c.yes, c.no} {
			if want != "-" {
				want = "total 0..0, " + want + ", x nowhere"
			}
			if got := tell(p, facts[row(t, p, api.NPass, n)]); got != want {
				t.Errorf("%s: %s; want %s", c.guard, got, want)
			}
		}
	}
}

// Cutting goes step by step, once: a place that is no more by the fourth step is cut by the next cutting alone.
func TestP903Cutting(t *testing.T) {
	wantPasses(t, "on hit a { evict a back; if total == 0 { pass; if total == 0 { pass; } } }", "a 0..0, b 0..0, total 0..0, x nowhere a", "a 0..0, b 0..0, total 0..0, x nowhere")
	wantPasses(t, "on hit a { evict a back; if total == 0 { if true == true { pass; } else { pass; } if true { pass; } } }", "a 0..0, b 0..0, total 0..0, x nowhere", "a 0..0, b 0..0, total 0..0, x nowhere", "a 0..0, b 0..0, total 0..0, x nowhere")
	wantPasses(t, "on hit a { evict a back; if empty(a) { pass; } else { pass; } }", "a 0..0, total 0..5, x nowhere", "a 1..3, b 0..4, total 1..5, x nowhere a")
	wantPasses(t, "on hit a { evict a back; if total == 0 && at(a) { pass; } pass; }", "-", "a 0..3, total 0..5, x nowhere a")
	wantPasses(t, "on hit a { evict a back; if at(a) { pass; } else { pass; } }", "a 1..3, b 0..4, total 1..5, x a", "a 0..3, total 0..5, x nowhere")
	wantPasses(t, "on hit a { if full(g) { drop g back; } evict a back to g front; if at(g) { pass; } else if at(a) { pass; } else { pass; } }", "a 0..3, g 1..3, total 0..5, x g", "a 1..3, b 0..4, g 1..3, total 1..5, x a", "-")
}

func TestP903Joining(t *testing.T) {
	wantPasses(t, "on miss { if v == 1 { set v = 3; } else if v == 2 { set v = 5; } else { set v = 4; } pass; }", "v 3..5, x nowhere")
	wantPasses(t, "on miss { if full(a) { evict a back; pass; } pass; }", "a 3..3, b 0..2, total 3..5, x nowhere", "a 0..3, x nowhere")
	wantPasses(t, "on miss { if full(a) { if true { if false { pass; } pass; } else { pass; } } else { set v = 1; } pass; }", "-", "a 4..4, b 0..2, total 4..6, x nowhere", "-", "x nowhere")
	wantPasses(t, "on miss { if false { pass; } else { } pass; if true { } else { pass; } { { pass; } } }", "-", "x nowhere", "-", "x nowhere")
	wantPasses(t, "on miss { if len(h) < 2 { insert h back; } pass; }", "h 1..2, x nowhere h")
}
