package gen_test

import (
	"fmt"
	"slices"
	"strings"
	"testing"

	"winnow/api"
	"winnow/gen"
	"winnow/rule"
)

// plan has two resident queues, two ghosts, two vars, two tags, and this on a miss.
func plan(miss []api.Act) api.Plan {
	return api.Plan{Ghost: []bool{false, false, true, true}, Vars: []api.Var{{Lo: -3, Hi: 9}, {Init: 5, Lo: -api.MaxNum, Hi: api.MaxNum}}, Tags: []int{3, 255}, On: make([][]api.Act, 4), Miss: miss}
}

func program(t *testing.T, p api.Plan) api.Program {
	t.Helper()
	x, err := gen.Make(p)
	if err != api.OK {
		t.Fatalf("Make of %.300v: %v", p, err)
	}
	return x
}

func origin(t *testing.T, p api.Plan) (events, rows []int) {
	t.Helper()
	events, rows, err := gen.Origin(p)
	if err != api.OK {
		t.Fatalf("Origin of %.300v: %v", p, err)
	}
	return events, rows
}

// wantCode wants the code of a block of these kids on a miss, and its rows, both without the IEnd.
func wantCode(t *testing.T, kids, code, rows string) {
	t.Helper()
	text := "block"
	if kids != "" {
		text = "block(" + kids + ")"
	}
	p := plan(acts(text))
	x := program(t, p)
	if got, want := tellCode(x.Code), strings.TrimPrefix(code+", end", ", "); got != want {
		t.Errorf("%s: %s; want %s", kids, got, want)
	}
	if x.Miss != 0 || !slices.Equal(x.On, []int{-1, -1, -1, -1}) {
		t.Errorf("%s: %v, %d", kids, x.On, x.Miss)
	}
	events, from := origin(t, p)
	if got, want := fmt.Sprint(from), "["+strings.TrimSpace(rows+" 0")+"]"; got != want {
		t.Errorf("%s: rows %s; want %s", kids, got, want)
	}
	if len(events) != len(from) || slices.ContainsFunc(events, func(n int) bool { return n != -1 }) {
		t.Errorf("%s: events %v", kids, events)
	}
}

// What brings entries from place to place is an instruction of that name, with the act's numbers.
func TestP1401Bringing(t *testing.T) {
	for _, doing := range strings.Split("insert 0 0|insert 1 1|insert 3 1|move 0 0|move 1 1|forget|shift 0 1 1 0|shift 1 0 0 1|shift 2 1 3 1|shift 3 0 3 0|spill 0 0 2 1|spill 1 1 3 0|evict 0 1|evict 1 0|drop 2 1|drop 3 0", "|") {
		wantCode(t, doing, doing, "1")
	}
	for _, hand := range strings.Split("take 0 1, give 1 0|take 2 0, give 3 1|take 3 1, loose|take 1 0, tell, loose|take 1 1, tell, give 2 0|take 0 0, tell, give 3 1", "|") {
		wantCode(t, hand, hand, strings.Join(strings.Fields("1 2 3")[:strings.Count(hand, ",")+1], " "))
	}
}

// A number or a bool without kids is an instruction of that name, with the act's A.
func TestP1401Leaves(t *testing.T) {
	for _, number := range strings.Split("num 0|num 7|num -7|num 1073741824|num -1073741824|var 0|var 1|len 0|len 3|total", "|") {
		wantCode(t, "set 1("+number+")", number+", set 1", "2 1")
	}
	for _, truth := range strings.Split("bool 0|bool 1|at 0|at 1|at 3", "|") {
		wantCode(t, "if("+truth+", block)", truth+", else 2", "2 1")
	}
	wantCode(t, "set 0(num 3)", "num 3, set 0", "2 1")
}

func TestP1401Items(t *testing.T) {
	for _, c := range [][3]string{
		{"set 0(tag 0(x))", "tagx 0, set 0", "2 1"},
		{"set 0(tag 1(x))", "tagx 1, set 0", "2 1"},
		{"set 0(tag 0(end 0 0))", "tagend 0 0 0, set 0", "2 1"},
		{"set 0(tag 1(end 2 0))", "tagend 2 0 1, set 0", "2 1"},
		{"set 0(tag 0(end 3 1))", "tagend 3 1 0, set 0", "2 1"},
		{"mark 0(x, num 2)", "num 2, markx 0", "3 1"},
		{"mark 1(x, num 0)", "num 0, markx 1", "3 1"},
		{"mark 0(end 0 0, num 2)", "num 2, markend 0 0 0", "3 1"},
		{"mark 1(end 2 0, num 2)", "num 2, markend 2 0 1", "3 1"},
		{"mark 0(end 3 1, num 2)", "num 2, markend 3 1 0", "3 1"},
		{"mark 1(end 0 1, add(tag 0(end 3 0), tag 1(x)))", "tagend 3 0 0, tagx 1, add, markend 0 1 1", "4 6 3 1"},
		{"mark 0(x, num 1), mark 1(end 1 0, num 2), forget", "num 1, markx 0, num 2, markend 1 0 1, forget", "3 1 6 4 7"},
	} {
		wantCode(t, c[0], c[1], c[2])
	}
}

func TestP1401Signs(t *testing.T) {
	for _, sign := range strings.Fields("min max mul div add sub") {
		wantCode(t, "set 0("+sign+"(len 2, var 1))", "len 2, var 1, "+sign+", set 0", "3 4 2 1")
		wantCode(t, "set 0("+sign+"("+sign+"(num 1, num 2), total))", "num 1, num 2, "+sign+", total, "+sign+", set 0", "4 5 3 6 2 1")
		wantCode(t, "set 0("+sign+"(total, "+sign+"(num 1, num 2)))", "total, num 1, num 2, "+sign+", "+sign+", set 0", "3 5 6 4 2 1")
	}
	for _, sign := range strings.Fields("eq lt le") {
		wantCode(t, "if("+sign+"(len 2, var 1), block)", "len 2, var 1, "+sign+", else 4", "3 4 2 1")
	}
	wantCode(t, "if(eq(at 0, bool 1), block)", "at 0, bool 1, eq, else 4", "3 4 2 1")
	wantCode(t, "set 0(neg(num 5))", "num 5, neg, set 0", "3 2 1")
	wantCode(t, "set 0(neg(neg(var 0)))", "var 0, neg, neg, set 0", "4 3 2 1")
	wantCode(t, "if(not(at 1), block)", "at 1, not, else 3", "3 2 1")
	wantCode(t, "if(not(eq(not(at 1), at 2)), block)", "at 1, not, at 2, eq, not, else 6", "5 4 6 3 2 1")
}

func TestP1401Junctions(t *testing.T) {
	for _, c := range [][3]string{
		{"if(and(at 0, at 1), block)", "at 0, else 4, at 1, jump 5, bool 0, else 6", "3 2 4 2 2 1"},
		{"if(or(at 0, at 1), block)", "at 0, else 4, bool 1, jump 5, at 1, else 6", "3 2 2 2 4 1"},
		{"if(and(bool 0, bool 1), block)", "bool 0, else 4, bool 1, jump 5, bool 0, else 6", "3 2 4 2 2 1"},
		{"if(or(bool 0, bool 1), block)", "bool 0, else 4, bool 1, jump 5, bool 1, else 6", "3 2 2 2 4 1"},
		// The second kid's length bears on what goes past it.
		{"if(and(at 0, lt(num 1, num 2)), block)", "at 0, else 6, num 1, num 2, lt, jump 7, bool 0, else 8", "3 2 5 6 4 2 2 1"},
		{"if(or(at 0, lt(num 1, num 2)), block)", "at 0, else 4, bool 1, jump 7, num 1, num 2, lt, else 8", "3 2 2 2 5 6 4 1"},
		{"if(and(lt(num 1, num 2), at 0), block)", "num 1, num 2, lt, else 6, at 0, jump 7, bool 0, else 8", "4 5 3 2 6 2 2 1"},
		{"if(or(lt(num 1, num 2), at 0), block)", "num 1, num 2, lt, else 6, bool 1, jump 7, at 0, else 8", "4 5 3 2 2 2 6 1"},
		// One in the other.
		{"if(and(and(at 0, at 1), at 2), block)", "at 0, else 4, at 1, jump 5, bool 0, else 8, at 2, jump 9, bool 0, else 10", "4 3 5 3 3 2 6 2 2 1"},
		{"if(or(at 0, and(at 1, at 2)), block)", "at 0, else 4, bool 1, jump 9, at 1, else 8, at 2, jump 9, bool 0, else 10", "3 2 2 2 5 4 6 4 4 1"},
		{"if(and(at 0, or(at 1, at 2)), block)", "at 0, else 8, at 1, else 6, bool 1, jump 7, at 2, jump 9, bool 0, else 10", "3 2 5 4 4 4 6 2 2 1"},
		{"if(or(or(at 0, at 1), at 2), block)", "at 0, else 4, bool 1, jump 5, at 1, else 8, bool 1, jump 9, at 2, else 10", "4 3 3 3 5 2 2 2 6 1"},
		{"if(not(eq(and(at 0, at 1), at 2)), block)", "at 0, else 4, at 1, jump 5, bool 0, at 2, eq, not, else 9", "5 4 6 4 4 7 3 2 1"},
	} {
		wantCode(t, c[0], c[1], c[2])
	}
}

func TestP1401Choices(t *testing.T) {
	for _, c := range [][3]string{
		{"if(at 2, block)", "at 2, else 2", "2 1"},
		{"if(at 2, block(forget))", "at 2, else 3, forget", "2 1 4"},
		{"if(at 2, block(forget, insert 0 0)), move 0 1", "at 2, else 4, forget, insert 0 0, move 0 1", "2 1 4 5 6"},
		{"if(at 2, block, block)", "at 2, else 3, jump 3", "2 1 1"},
		{"if(at 2, block(forget), block)", "at 2, else 4, forget, jump 4", "2 1 4 1"},
		{"if(at 2, block, block(move 0 1))", "at 2, else 3, jump 4, move 0 1", "2 1 1 5"},
		{"if(at 2, block(forget), block(move 0 1, move 1 0)), forget", "at 2, else 4, forget, jump 6, move 0 1, move 1 0, forget", "2 1 4 1 6 7 8"},
		{"if(lt(num 1, num 2), block(forget))", "num 1, num 2, lt, else 5, forget", "3 4 2 1 6"},
		// One in the other; two that end at one place.
		{"if(at 0, block(if(at 1, block(forget))))", "at 0, else 5, at 1, else 5, forget", "2 1 5 4 7"},
		{"if(at 0, block(if(at 1, block(forget), block(move 0 0))), block(if(at 2, block(move 1 1))))", "at 0, else 8, at 1, else 6, forget, jump 7, move 0 0, jump 11, at 2, else 11, move 1 1", "2 1 5 4 7 4 9 1 12 11 14"},
		{"if(at 0, block), if(at 1, block)", "at 0, else 2, at 1, else 4", "2 1 5 4"},
	} {
		wantCode(t, c[0], c[1], c[2])
	}
}

func TestP1401Loops(t *testing.T) {
	for _, c := range [][3]string{
		{"loop 3(bool 1, block)", "loop 3, turn 5, bool 1, quit 5, again 1", "1 1 2 1 1"},
		{"loop 0(bool 1, block)", "loop 0, turn 5, bool 1, quit 5, again 1", "1 1 2 1 1"},
		{"loop 4194304(at 3, block(forget))", "loop 4194304, turn 6, at 3, quit 6, forget, again 1", "1 1 2 1 4 1"},
		{"forget, loop 2(lt(total, num 4), block(forget, move 0 0)), forget", "forget, loop 2, turn 10, total, num 4, lt, quit 10, forget, move 0 0, again 2, forget", "1 2 2 4 5 3 2 7 8 2 9"},
		{"loop 2(at 0, block(loop 3(at 1, block)))", "loop 2, turn 10, at 0, quit 10, loop 3, turn 9, at 1, quit 9, again 5, again 1", "1 1 2 1 4 4 5 4 4 1"},
		{"loop 2(at 0, block), loop 3(at 1, block)", "loop 2, turn 5, at 0, quit 5, again 1, loop 3, turn 10, at 1, quit 10, again 6", "1 1 2 1 1 4 4 5 4 4"},
		{"loop 2(or(at 0, at 1), block(if(at 2, block(forget))))", "loop 2, turn 12, at 0, else 6, bool 1, jump 7, at 1, quit 12, at 2, else 11, forget, again 1", "1 1 3 2 2 2 4 1 7 6 9 1"},
		{"if(at 0, block(loop 2(at 1, block)), block(loop 3(at 2, block)))", "at 0, else 8, loop 2, turn 7, at 1, quit 7, again 3, jump 13, loop 3, turn 13, at 2, quit 13, again 9", "2 1 4 4 5 4 4 1 8 8 9 8 8"},
	} {
		wantCode(t, c[0], c[1], c[2])
	}
}

func TestP1401Blocks(t *testing.T) {
	wantCode(t, "", "", "")
	wantCode(t, "block", "", "")
	wantCode(t, "block, block(block)", "", "")
	wantCode(t, "block(forget, block(insert 0 0), block), move 1 1", "forget, insert 0 0, move 1 1", "2 4 6")
}

// The chapter's examples.
func TestExamples(t *testing.T) {
	p := api.Plan{Ghost: []bool{false}, On: [][]api.Act{nil}, Miss: acts("block(if(eq(len 0, num 5), block(take 0 1, tell, loose)), insert 0 0)")}
	x := program(t, p)
	if x.Miss != 0 || !slices.Equal(x.On, []int{-1}) || tellCode(x.Code) != "len 0, num 5, eq, else 7, take 0 1, tell, loose, insert 0 0, end" {
		t.Errorf("1: %v", x)
	}
	if events, rows := origin(t, p); fmt.Sprint(rows) != "[3 4 2 1 6 7 8 9 0]" || fmt.Sprint(events) != "[-1 -1 -1 -1 -1 -1 -1 -1 -1]" {
		t.Errorf("1: %v, %v", events, rows)
	}
	x = program(t, api.Plan{Miss: acts("block(loop 3(bool 1, block))")})
	if x.Miss != 0 || len(x.On) != 0 || tellCode(x.Code) != "loop 3, turn 5, bool 1, quit 5, again 1, end" {
		t.Errorf("2: %v", x)
	}
	set := acts("block(set 0(num 1))")
	x = program(t, api.Plan{Ghost: []bool{false}, Vars: []api.Var{{Hi: 1}}, On: [][]api.Act{set}, Miss: set})
	if x.Miss != 3 || !slices.Equal(x.On, []int{0}) || tellCode(x.Code) != "num 1, set 0, end, num 1, set 0, end" {
		t.Errorf("3: %v", x)
	}
	x = program(t, api.Plan{Ghost: []bool{false}, On: [][]api.Act{nil}, Miss: acts("block(if(or(bool 0, at 0), block))")})
	if tellCode(x.Code) != "bool 0, else 4, bool 1, jump 5, at 0, else 6, end" {
		t.Errorf("4: %v", x)
	}
}

// The queues' events in their order, then the miss's; -1 where there are no rows.
func TestP1401Events(t *testing.T) {
	p := plan(nil)
	p.On[0] = acts("block")
	p.On[1] = acts("block(if(at 1, block(move 0 0), block(forget)))")
	p.On[3] = acts("block(loop 2(at 3, block(forget)), insert 0 1)")
	p.Miss = acts("block(if(at 0, block(forget)))")
	x := program(t, p)
	want := "end, at 1, else 5, move 0 0, jump 6, forget, end, loop 2, turn 13, at 3, quit 13, forget, again 8, insert 0 1, end, at 0, else 18, forget, end"
	if got := tellCode(x.Code); got != want {
		t.Errorf("%s; want %s", got, want)
	}
	if !slices.Equal(x.On, []int{0, 1, -1, 7}) || x.Miss != 15 {
		t.Errorf("%v, %d", x.On, x.Miss)
	}
	if !slices.Equal(x.Ghost, p.Ghost) || !slices.Equal(x.Vars, p.Vars) || !slices.Equal(x.Tags, p.Tags) {
		t.Errorf("%v, %v, %v", x.Ghost, x.Vars, x.Tags)
	}
	events, rows := origin(t, p)
	if fmt.Sprint(events) != "[0 1 1 1 1 1 1 3 3 3 3 3 3 3 3 -1 -1 -1 -1]" || fmt.Sprint(rows) != "[0 2 1 4 1 6 0 1 1 2 1 4 1 5 0 2 1 4 0]" {
		t.Errorf("%v, %v", events, rows)
	}
	p.Miss = nil
	x = program(t, p)
	if x.Miss != -1 || len(x.Code) != 15 {
		t.Errorf("without a miss: %d, %v", x.Miss, x.Code)
	}
	if events, rows := origin(t, p); len(events) != 15 || len(rows) != 15 || events[14] != 3 {
		t.Errorf("without a miss: %v, %v", events, rows)
	}
}

func TestP1401NoEvents(t *testing.T) {
	for _, p := range []api.Plan{{}, plan(nil), {Ghost: []bool{}, Vars: []api.Var{}, Tags: []int{}, On: [][]api.Act{}, Miss: []api.Act{}}, {Ghost: []bool{true}, On: [][]api.Act{{}}}} {
		x := program(t, p)
		if x.Miss != -1 || len(x.On) != len(p.On) || len(x.Code) != 0 || slices.ContainsFunc(x.On, func(at int) bool { return at != -1 }) {
			t.Errorf("%v: %v", p, x)
		}
		if !slices.Equal(x.Ghost, p.Ghost) || !slices.Equal(x.Vars, p.Vars) || !slices.Equal(x.Tags, p.Tags) {
			t.Errorf("%v: %v", p, x)
		}
		if events, rows := origin(t, p); len(events) != 0 || len(rows) != 0 {
			t.Errorf("%v: %v, %v", p, events, rows)
		}
	}
}

// As many of each as there may be.
func TestP1401Most(t *testing.T) {
	p := api.Plan{Ghost: make([]bool, 16), Vars: make([]api.Var, 16), Tags: []int{1, 255, 7, 3}, On: make([][]api.Act, 16)}
	for q := range p.On {
		p.Ghost[q] = q%3 == 1
		p.Vars[q] = api.Var{Init: q, Lo: -q, Hi: api.MaxNum}
		p.On[q] = mk(api.RBlock).with(mk(api.RSet, 15-q).with(mk(api.RTag, q%4).with(mk(api.REnd, q, 1)))).flat()
	}
	p.Miss = acts("block(set 15(len 15))")
	x := program(t, p)
	for q, at := range x.On {
		if want := fmt.Sprintf("tagend %d 1 %d, set %d, end", q, q%4, 15-q); at != 3*q || tellCode(x.Code[at:at+3]) != want {
			t.Errorf("%d at %d: %s; want %s", q, at, tellCode(x.Code), want)
		}
	}
	if x.Miss != 48 || tellCode(x.Code[48:]) != "len 15, set 15, end" {
		t.Errorf("%d, %s", x.Miss, tellCode(x.Code))
	}
	if !slices.Equal(x.Ghost, p.Ghost) || !slices.Equal(x.Vars, p.Vars) || !slices.Equal(x.Tags, p.Tags) {
		t.Errorf("%v, %v, %v", x.Ghost, x.Vars, x.Tags)
	}
}

// wantRefused wants both calls to answer ErrPlan, and zero values.
func wantRefused(t *testing.T, what string, p api.Plan) {
	t.Helper()
	if rule.Check(p) != api.ErrPlan {
		t.Fatalf("%s is right", what)
	}
	if x, err := gen.Make(p); err != api.ErrPlan || len(x.Ghost)+len(x.Vars)+len(x.Tags)+len(x.On)+len(x.Code) > 0 || x.Miss != 0 {
		t.Errorf("%s: Make: %v, %v", what, x, err)
	}
	if events, rows, err := gen.Origin(p); err != api.ErrPlan || len(events)+len(rows) > 0 {
		t.Errorf("%s: Origin: %v, %v, %v", what, events, rows, err)
	}
}

func TestWrongPlans(t *testing.T) {
	for _, text := range strings.Split("forget|block(num 1)|block(x)|block(if(num 1, block))|block(if(at 0, forget))|block(if(at 0))|block(if(at 0, block, block, block))|block(loop 4194305(at 0, block))|block(loop -1(at 0, block))|block(set 2(num 1))|block(set 0(bool 1))|block(set 0)|block(mark 2(x, num 1))|block(mark 0(num 1, num 1))|block(mark 0(x))|block(insert 4 0)|block(insert 0 2)|block(insert -1 0)|block(insert 0 0 1)|block(move 2 0)|block(evict 2 0)|block(drop 0 0)|block(spill 0 0 1 0)|block(shift 0 0 2 0)|block(take 0 1)|block(take 0 1, insert 0 0, loose)|block(take 0 0, loose)|block(take 2 0, tell, loose)|block(tell)|block(loose)|block(give 0 0)|block(set 0(num 1073741825))|block(if(bool 2, block))|block(set 0(tag 0(num 1)))|block(set 0(tag 4(x)))|block(if(eq(at 0, num 1), block))|block(set 0(add(num 1)))|block(if(not(num 1), block))|block(if(and(at 0, num 1), block))|block(if(lt(at 0, at 1), block))", "|") {
		wantRefused(t, text, plan(acts(text)))
		p := plan(acts("block(forget)"))
		p.On[2] = acts(text)
		wantRefused(t, text+" of a queue", p)
	}
	rows := acts("block(if(at 0, block(forget)), move 0 0)")
	for n := 1; n < len(rows); n++ {
		wantRefused(t, "too few rows", plan(rows[:n]))
	}
	wantRefused(t, "too many rows", plan(append(slices.Clone(rows), rows[len(rows)-1])))
	wantRefused(t, "kids below 0", plan([]api.Act{{Kind: api.RBlock, Kids: -1}}))
	for _, kind := range []int{0, -1, api.RCount, 1 << 40} {
		wantRefused(t, "no kind", plan([]api.Act{{Kind: kind}}))
		wantRefused(t, "no kind", plan([]api.Act{{Kind: api.RBlock, Kids: 1}, {Kind: kind}}))
	}
}

func TestWrongLists(t *testing.T) {
	for what, spoil := range map[string]func(p *api.Plan){
		"an event too many":      func(p *api.Plan) { p.On = append(p.On, nil) },
		"an event too few":       func(p *api.Plan) { p.On = p.On[:3] },
		"too many queues":        func(p *api.Plan) { p.Ghost, p.On = make([]bool, 17), make([][]api.Act, 17) },
		"too many vars":          func(p *api.Plan) { p.Vars = make([]api.Var, 17) },
		"too many tags":          func(p *api.Plan) { p.Tags = []int{1, 1, 1, 1, 1} },
		"a var out of its range": func(p *api.Plan) { p.Vars[0].Init = 10 },
		"a range too large":      func(p *api.Plan) { p.Vars[0].Hi = api.MaxNum + 1 },
		"a tag of 0":             func(p *api.Plan) { p.Tags[1] = 0 },
		"a tag too large":        func(p *api.Plan) { p.Tags[0] = 256 },
	} {
		p := plan(acts("block"))
		spoil(&p)
		wantRefused(t, what, p)
	}
}
