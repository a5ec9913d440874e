package fold_test

import (
	"fmt"
	"slices"
	"strings"
	"testing"

	"winnow/api"
	"winnow/fold"
	"winnow/rule"
)

// usual are capacities of the plans of most tests.
func usual() api.Caps { return api.Caps{Size: 4, Queues: []int{3, 2, 2, 1}} }

// plan has two resident queues, two ghosts, two vars, two tags, and this on a miss.
func plan(miss []api.Act) api.Plan {
	return api.Plan{Ghost: []bool{false, false, true, true}, Vars: []api.Var{{Lo: -3, Hi: 9}, {Init: 5, Lo: -api.MaxNum, Hi: api.MaxNum}}, Tags: []int{3, 255}, On: make([][]api.Act, 4), Miss: miss}
}

// tellEvent is how an event's rows are written; "none": there are none.
func tellEvent(rows []api.Act) string {
	if len(rows) == 0 {
		return "none"
	}
	return tell(rows)
}

// left is what is left of a plan with this on a miss: such as "8 at 1", or "nothing".
func left(t *testing.T, p api.Plan) string {
	t.Helper()
	event, row, what, is := fold.Left(p)
	if !is && event == 0 && row == 0 && what == 0 {
		return "nothing"
	}
	if !is || event != -1 {
		t.Errorf("%s: %d, %d, %d, %v", tellEvent(p.Miss), event, row, what, is)
	}
	return fmt.Sprint(what, " at ", row)
}

func once(t *testing.T, p api.Plan) api.Plan {
	t.Helper()
	q, err := fold.Once(p)
	if err != api.OK {
		t.Fatalf("Once of %.300v: %v", p, err)
	}
	return q
}

func run(t *testing.T, p api.Plan) api.Plan {
	t.Helper()
	q, err := fold.Run(p)
	if err != api.OK {
		t.Fatalf("Run of %.300v: %v", p, err)
	}
	return q
}

// wantStep wants what is left first of a block's kids, and what Once makes of them; with "nothing" left, that they stay.
func wantStep(t *testing.T, kids, want, after string) {
	t.Helper()
	block := func(kids string) string {
		if kids == "" {
			return "block"
		}
		return "block(" + kids + ")"
	}
	p := plan(acts(block(kids)))
	if rule.Check(p) != api.OK {
		t.Fatalf("%s is not right", kids)
	}
	if got := left(t, p); got != want {
		t.Errorf("%s: %s is left; want %s", kids, got, want)
	}
	if want == "nothing" {
		after = kids
	}
	to := block(after)
	if after == "none" {
		to = after
	}
	q := once(t, p)
	if got := tellEvent(q.Miss); got != to {
		t.Errorf("%s: Once: %s; want %s", kids, got, to)
	}
	p.Miss = q.Miss
	if !rule.Same(p, q) {
		t.Errorf("%s: %v; want %v", kids, q, p)
	}
}

// ask stands for an RIf with that bool, so that its row is row 2.
func ask(bool string) string { return "if(" + bool + ", block(forget))" }

// set stands for an RSet with that number, so that its row is row 2.
func set(number string) string { return "set 1(" + number + ")" }

// Numbers and bools: what is left at row 2.
func TestP1301Known(t *testing.T) {
	const most, least = "num 1073741824", "num -1073741824"
	for _, c := range [][2]string{
		{"neg(num 7)", "num -7"}, {"neg(num 0)", "num 0"}, {"neg(" + most + ")", least}, {"neg(" + least + ")", most},
		{"min(num 2, num 3)", "num 2"}, {"min(num 3, num -2)", "num -2"}, {"max(num 2, num 3)", "num 3"}, {"max(num -2, num -3)", "num -2"},
		{"mul(num 6, num -7)", "num -42"}, {"mul(num 32768, num 32768)", most}, {"mul(num 32768, num 32769)", most}, {"mul(" + most + ", " + most + ")", most}, {"mul(" + most + ", " + least + ")", least}, {"mul(" + least + ", " + least + ")", most}, {"mul(num 0, num 1)", "num 0"}, {"mul(num 1, num 0)", "num 0"},
		{"div(num 7, num 2)", "num 3"}, {"div(num -7, num 2)", "num -4"}, {"div(num 7, num -2)", "num -4"}, {"div(num -7, num -2)", "num 3"}, {"div(num -8, num 2)", "num -4"}, {"div(num 8, num -2)", "num -4"}, {"div(num 0, num -2)", "num 0"},
		{"div(num 7, num 0)", "num 0"}, {"div(num 0, num 0)", "num 0"}, {"div(num -1, " + most + ")", "num -1"}, {"div(num 1, " + least + ")", "num -1"}, {"div(" + least + ", num -1)", most}, {"div(num 5, num 1)", "num 5"},
		{"add(num 2, num 3)", "num 5"}, {"add(" + most + ", num 1)", most}, {"add(" + least + ", num -1)", least}, {"add(" + most + ", num 0)", most}, {"add(num 0, num 7)", "num 7"},
		{"sub(num 2, num 3)", "num -1"}, {"sub(" + least + ", num 1)", least}, {"sub(" + most + ", num -1)", most}, {"sub(num 7, num 0)", "num 7"},
	} {
		wantStep(t, set(c[0]), "1 at 2", set(c[1]))
	}
	for _, c := range [][2]string{
		{"eq(num 3, num 3)", "bool 1"}, {"eq(num 3, num 4)", "bool 0"}, {"eq(bool 1, bool 1)", "bool 1"}, {"eq(bool 0, bool 1)", "bool 0"}, {"eq(bool 1, bool 0)", "bool 0"}, {"eq(bool 0, bool 0)", "bool 1"},
		{"lt(num 3, num 4)", "bool 1"}, {"lt(num 4, num 4)", "bool 0"}, {"lt(num 5, num 4)", "bool 0"}, {"le(num 3, num 4)", "bool 1"}, {"le(num 4, num 4)", "bool 1"}, {"le(num 5, num 4)", "bool 0"},
	} {
		wantStep(t, ask(c[0]), "1 at 2", ask(c[1]))
	}
	wantStep(t, "loop 4(not(bool 1), block(forget))", "1 at 2", "loop 4(bool 0, block(forget))")
	wantStep(t, "loop 4(not(bool 0), block(forget))", "1 at 2", "loop 4(bool 1, block(forget))")
	// One kid that is not known is enough.
	for _, kind := range strings.Fields("min max div add sub mul") {
		wantStep(t, set(kind+"(num 7, var 0)"), "nothing", "")
		wantStep(t, set(kind+"(var 0, num 7)"), "nothing", "")
		wantStep(t, set(kind+"(var 0, len 1)"), "nothing", "")
	}
	for _, kind := range strings.Fields("eq lt le") {
		wantStep(t, ask(kind+"(num 7, total)"), "nothing", "")
		wantStep(t, ask(kind+"(total, num 7)"), "nothing", "")
		wantStep(t, ask(kind+"(total, total)"), "nothing", "")
	}
	wantStep(t, set("neg(var 0)"), "nothing", "")
	// In an RMark, an RLoop, below a sign.
	wantStep(t, "mark 0(x, add(num 1, num 1))", "1 at 3", "mark 0(x, num 2)")
	wantStep(t, "loop 4(lt(num 1, num 2), block(forget))", "1 at 2", "loop 4(bool 1, block(forget))")
	wantStep(t, set("min(var 0, neg(max(num 3, num 4)))"), "1 at 5", set("min(var 0, neg(num 4))"))
}

const tag = "lt(tag 0(x), num 2)"

func TestP1301Signs(t *testing.T) {
	for _, c := range [][3]string{
		// 2: the first kid is known.
		{"and(bool 1, at 0)", "2", "at 0"}, {"and(bool 0, at 0)", "2", "bool 0"}, {"or(bool 0, at 0)", "2", "at 0"}, {"or(bool 1, at 0)", "2", "bool 1"},
		{"and(bool 1, " + tag + ")", "2", tag}, {"and(bool 0, " + tag + ")", "2", "bool 0"}, {"or(bool 0, " + tag + ")", "2", tag}, {"or(bool 1, " + tag + ")", "2", "bool 1"},
		{"and(bool 1, bool 0)", "2", "bool 0"}, {"and(bool 0, bool 1)", "2", "bool 0"}, {"and(bool 1, bool 1)", "2", "bool 1"}, {"or(bool 0, bool 1)", "2", "bool 1"}, {"or(bool 1, bool 0)", "2", "bool 1"},
		// 3: the second one.
		{"and(at 0, bool 1)", "3", "at 0"}, {"and(at 0, bool 0)", "3", "bool 0"}, {"or(at 0, bool 0)", "3", "at 0"}, {"or(at 0, bool 1)", "3", "bool 1"},
		{"and(" + tag + ", bool 1)", "3", tag}, {"or(" + tag + ", bool 0)", "3", tag},
		{"and(" + tag + ", bool 0)", "", ""}, {"or(" + tag + ", bool 1)", "", ""}, {"and(not(and(at 0, " + tag + ")), bool 0)", "", ""},
		{"and(lt(len 0, var 1), bool 0)", "3", "bool 0"}, {"or(not(at 1), bool 1)", "3", "bool 1"},
		{"and(at 0, at 1)", "", ""}, {"or(at 0, at 0)", "", ""},
		{"and(at 1, at 0)", "", ""}, {"eq(at 1, at 0)", "", ""},
		// 7: is it true, is it false.
		{"eq(bool 1, at 0)", "7", "at 0"}, {"eq(at 0, bool 1)", "7", "at 0"}, {"eq(bool 0, at 0)", "7", "not(at 0)"}, {"eq(at 0, bool 0)", "7", "not(at 0)"},
		{"eq(bool 1, " + tag + ")", "7", tag}, {"eq(" + tag + ", bool 0)", "7", "not(" + tag + ")"}, {"eq(bool 0, not(at 0))", "7", "not(not(at 0))"}, {"eq(eq(at 0, at 1), bool 0)", "7", "not(eq(at 0, at 1))"},
		{"eq(num 1, len 0)", "", ""}, {"eq(len 0, num 0)", "", ""},
	} {
		if c[1] == "" {
			wantStep(t, ask(c[0]), "nothing", "")
		} else {
			wantStep(t, ask(c[0]), c[1]+" at 2", ask(c[2]))
		}
	}
	// 4: not not.
	wantStep(t, ask("and(at 1, not(not(at 0)))"), "4 at 4", ask("and(at 1, at 0)"))
	wantStep(t, ask("and(at 1, not(not(not("+tag+"))))"), "4 at 4", ask("and(at 1, not("+tag+"))"))
	wantStep(t, ask("and(at 1, not(at 0))"), "nothing", "")
}

func TestP1301Numbers(t *testing.T) {
	const tag, other = "tag 1(end 2 1)", "add(var 0, len 1)"
	for _, c := range [][3]string{
		{"neg(neg(var 0))", "4", "var 0"}, {"neg(neg(" + tag + "))", "4", tag}, {"neg(neg(neg(var 0)))", "4", "neg(var 0)"}, {"neg(add(var 0, var 0))", "", ""},
		{"add(num 0, var 0)", "5", "var 0"}, {"add(var 0, num 0)", "5", "var 0"}, {"add(num 0, " + tag + ")", "5", tag}, {"add(" + other + ", num 0)", "5", other},
		{"sub(var 0, num 0)", "5", "var 0"}, {"sub(" + tag + ", num 0)", "5", tag}, {"sub(num 0, var 0)", "", ""}, {"sub(num 1, var 0)", "", ""}, {"sub(var 0, num 1)", "", ""},
		{"mul(num 1, var 0)", "5", "var 0"}, {"mul(var 0, num 1)", "5", "var 0"}, {"mul(num 1, " + tag + ")", "5", tag}, {"mul(" + tag + ", num 1)", "5", tag}, {"mul(num -1, var 0)", "", ""}, {"mul(num 2, var 0)", "", ""},
		{"div(var 0, num 1)", "5", "var 0"}, {"div(" + other + ", num 1)", "5", other}, {"div(num 1, var 0)", "", ""}, {"div(var 0, num 0)", "", ""}, {"div(num 0, var 0)", "", ""}, {"div(var 0, num -1)", "", ""},
		{"add(num 1, var 0)", "", ""}, {"add(var 0, num 1)", "", ""}, {"min(num 0, var 0)", "", ""}, {"max(var 0, num 1)", "", ""},
		{"mul(num 0, var 0)", "6", "num 0"}, {"mul(var 0, num 0)", "6", "num 0"}, {"mul(num 0, " + other + ")", "6", "num 0"}, {"mul(" + other + ", num 0)", "6", "num 0"},
		{"mul(num 0, " + tag + ")", "", ""}, {"mul(" + tag + ", num 0)", "", ""}, {"mul(num 0, min(var 0, " + tag + "))", "", ""}, {"mul(neg(" + tag + "), num 0)", "", ""},
	} {
		if c[1] == "" {
			wantStep(t, set(c[0]), "nothing", "")
		} else {
			wantStep(t, set(c[0]), c[1]+" at 2", set(c[2]))
		}
	}
}

// What is left at row 1, of an RIf.
func TestP1301If(t *testing.T) {
	const a, b = "block(insert 0 0)", "block(insert 1 1, forget)"
	for _, c := range [][3]string{
		{"if(bool 1, " + a + ")", "8", a}, {"if(bool 0, " + a + ")", "8", ""}, {"if(bool 1, " + a + ", " + b + ")", "8", a}, {"if(bool 0, " + a + ", " + b + ")", "8", b},
		{"if(bool 0, " + a + ", block)", "8", "block"}, {"if(bool 1, block, " + b + ")", "8", "block"}, {"if(bool 1, block)", "8", "block"},
		{"if(not(at 0), " + a + ")", "9", "if(at 0, block, " + a + ")"}, {"if(not(at 0), " + a + ", " + b + ")", "9", "if(at 0, " + b + ", " + a + ")"},
		{"if(not(" + tag + "), " + a + ", block)", "9", "if(" + tag + ", block, " + a + ")"}, {"if(not(at 0), block)", "9", "if(at 0, block, block)"},
		{"if(not(not(at 0)), " + a + ", " + b + ")", "9", "if(not(at 0), " + b + ", " + a + ")"}, {"if(not(bool 1), " + a + ")", "9", "if(bool 1, block, " + a + ")"},
		{"if(at 0, " + a + ", block)", "10", "if(at 0, " + a + ")"}, {"if(at 0, block, block)", "10", "if(at 0, block)"}, {"if(" + tag + ", " + a + ", block)", "10", "if(" + tag + ", " + a + ")"},
		{"if(at 0, block)", "11", ""}, {"if(lt(len 0, var 0), block)", "11", ""}, {"if(" + tag + ", block)", "", ""}, {"if(and(at 0, " + tag + "), block)", "", ""},
		{"if(at 0, block, " + a + ")", "", ""}, {"if(at 0, " + a + ")", "", ""}, {"if(at 0, " + a + ", " + b + ")", "", ""},
		// 12.
		{"if(at 0, block(if(at 0, " + a + ")))", "12", "if(at 0, block(" + a + "))"},
		{"if(at 0, block(if(at 0, " + a + ", " + b + "), forget), " + a + ")", "12", "if(at 0, block(" + a + ", forget), " + a + ")"},
		{"if(" + tag + ", block(if(" + tag + ", block, " + b + ")))", "12", "if(" + tag + ", block(block))"},
		{"if(at 0, block(if(at 0, " + a + ", block)))", "12", "if(at 0, block(" + a + "))"},
		{"if(at 0, block(if(at 1, " + a + ")))", "", ""}, {"if(at 0, block(forget, if(at 0, " + a + ")))", "", ""},
		{"if(lt(len 0, var 1), block(if(lt(len 0, var 0), " + a + ")))", "", ""}, {"if(lt(len 0, var 1), block(if(le(len 0, var 1), " + a + ")))", "", ""}, {"if(lt(len 0, var 1), block(if(lt(len 0, neg(var 1)), " + a + ")))", "", ""},
		{"if(lt(tag 0(x), num 2), block(if(lt(tag 0(end 0 0), num 2), " + a + ")))", "", ""}, {"if(lt(tag 0(end 0 1), num 2), block(if(lt(tag 0(end 0 0), num 2), " + a + ")))", "", ""},
		{"if(lt(tag 0(x), num 2), block(if(lt(tag 1(x), num 2), " + a + ")))", "", ""},
		{"if(at 0, block(loop 2(at 0, " + a + ")))", "", ""},
		// 13.
		{"if(at 0, " + a + ", block(if(at 0, " + a + ", " + b + "), forget))", "13", "if(at 0, " + a + ", block(" + b + ", forget))"},
		{"if(at 0, " + a + ", block(if(at 0, " + a + "), forget))", "13", "if(at 0, " + a + ", block(forget))"},
		{"if(at 0, " + a + ", block(if(at 0, " + a + ")))", "13", "if(at 0, " + a + ", block)"},
		{"if(at 0, block, block(if(at 0, " + a + ", block)))", "13", "if(at 0, block, block(block))"},
		{"if(at 0, " + a + ", block(if(at 1, " + a + ", " + b + ")))", "", ""}, {"if(at 0, " + a + ", block(forget, if(at 0, " + a + ", " + b + ")))", "", ""},
		// 12 is ahead of 13; 10 of both.
		{"if(at 0, block(if(at 0, " + a + ")), block(if(at 0, " + a + ", " + b + ")))", "12", "if(at 0, block(" + a + "), block(if(at 0, " + a + ", " + b + ")))"},
		{"if(at 0, block(if(at 0, " + a + ")), block)", "10", "if(at 0, block(if(at 0, " + a + ")))"},
		{"if(not(at 0), block(if(not(at 0), " + a + ")))", "9", "if(at 0, block, block(if(not(at 0), " + a + ")))"},
	} {
		if c[1] == "" {
			wantStep(t, c[0], "nothing", "")
		} else {
			wantStep(t, c[0], c[1]+" at 1", c[2])
		}
	}
}

// What is left at row 1, of other doings.
func TestP1301Doings(t *testing.T) {
	const a = "block(insert 0 0)"
	for _, c := range [][3]string{
		{"loop 0(at 0, " + a + ")", "14", ""}, {"loop 0(" + tag + ", " + a + ")", "14", ""}, {"loop 0(bool 1, block)", "14", ""}, {"loop 5(bool 0, " + a + ")", "14", ""}, {"loop 1(bool 0, " + a + ")", "14", ""},
		{"loop 5(at 0, block)", "14", ""}, {"loop 5(bool 1, block)", "14", ""}, {"loop 1(at 0, block)", "14", ""}, {"loop 4194304(lt(len 0, total), block)", "14", ""},
		{"loop 5(" + tag + ", block)", "", ""}, {"loop 5(at 0, " + a + ")", "", ""}, {"loop 5(bool 1, " + a + ")", "", ""}, {"loop 2(not(at 0), " + a + ")", "", ""},
		{"loop 1(at 0, " + a + ")", "15", "if(at 0, " + a + ")"}, {"loop 1(bool 1, " + a + ")", "15", "if(bool 1, " + a + ")"}, {"loop 1(" + tag + ", block)", "15", "if(" + tag + ", block)"},
		{"set 0(var 0)", "16", ""}, {"set 1(var 1)", "16", ""}, {"set 0(var 1)", "", ""}, {"set 1(var 0)", "", ""}, {"set 0(len 0)", "", ""}, {"set 0(num 0)", "", ""}, {"set 0(neg(var 0))", "", ""},
		{"block", "17", ""}, {a, "17", "insert 0 0"}, {"block(forget, block, move 0 0)", "17", "forget, block, move 0 0"}, {"block(block(forget))", "17", "block(forget)"}, {"block(take 0 1, tell, loose)", "17", "take 0 1, tell, loose"},
		{"take 0 1, give 1 0", "18", "shift 0 1 1 0"}, {"take 2 0, give 3 1", "18", "shift 2 0 3 1"}, {"take 2 1, give 2 1", "18", "shift 2 1 2 1"},
		{"take 0 1, tell, loose", "18", "evict 0 1"}, {"take 1 0, tell, loose", "18", "evict 1 0"},
		{"take 0 1, tell, give 2 0", "18", "spill 0 1 2 0"}, {"take 1 0, tell, give 3 1", "18", "spill 1 0 3 1"},
		{"take 2 1, loose", "18", "drop 2 1"}, {"take 3 0, loose", "18", "drop 3 0"},
		{"", "19", "none"},
		{"insert 0 0, move 1 0, forget, shift 0 0 1 1, spill 0 0 2 1, evict 0 0, drop 2 1, mark 0(x, num 1), mark 1(end 0 0, var 1)", "", ""},
	} {
		switch {
		case c[1] == "":
			wantStep(t, c[0], "nothing", "")
		case c[1] == "19":
			wantStep(t, c[0], "19 at 0", c[2])
		default:
			wantStep(t, c[0], c[1]+" at 1", c[2])
		}
	}
	// The rows beside it stay.
	wantStep(t, "forget, take 0 1, give 1 0, take 0 0, tell, loose", "18 at 2", "forget, shift 0 1 1 0, take 0 0, tell, loose")
	wantStep(t, "forget, take 0 1, tell, give 2 1, move 0 0", "18 at 2", "forget, spill 0 1 2 1, move 0 0")
	wantStep(t, "insert 0 0, set 1(var 1), forget", "16 at 2", "insert 0 0, forget")
	wantStep(t, "insert 0 0, block(move 0 0, move 0 1), forget", "17 at 2", "insert 0 0, move 0 0, move 0 1, forget")
	wantStep(t, "if(at 0, block(insert 0 0, block, forget))", "17 at 5", "if(at 0, block(insert 0 0, forget))")
	wantStep(t, "if(at 0, block(forget), block(block(insert 0 0)))", "17 at 6", "if(at 0, block(forget), block(insert 0 0))")
	wantStep(t, "loop 3(at 0, block(if(bool 0, block(forget)), take 0 0, tell, loose))", "8 at 4", "loop 3(at 0, block(take 0 0, tell, loose))")
}

// The first row with something left is told, whatever is left behind it or below it.
func TestP1301First(t *testing.T) {
	wantStep(t, "if(not(eq(num 1, num 1)), block(set 0(var 0)))", "9 at 1", "if(eq(num 1, num 1), block, block(set 0(var 0)))")
	wantStep(t, "insert 0 0, if(at 0, block(set 0(add(num 1, num 2)))), set 0(var 0)", "1 at 6", "insert 0 0, if(at 0, block(set 0(num 3))), set 0(var 0)")
	wantStep(t, "set 0(add(num 0, mul(num 1, var 0)))", "5 at 2", "set 0(mul(num 1, var 0))")
	wantStep(t, "set 0(add(mul(num 1, var 0), neg(num 3)))", "5 at 3", "set 0(add(var 0, neg(num 3)))")
	wantStep(t, "block(block), take 2 0, loose", "17 at 1", "block, take 2 0, loose")
}

// Queue by queue, the miss last; only the event that is told is changed.
func TestP1301Events(t *testing.T) {
	p := plan(acts("block(block)"))
	want := []string{"-1 1 17", "-1 0 19", ""}
	rows := []string{"block(insert 0 0, take 0 0, tell, loose)", "block", "block(set 0(num 1))", "block(if(at 0, block(forget), block))"}
	for q, text := range rows {
		p.On[q] = acts(text)
	}
	want = append([]string{"0 2 18", "1 0 19", "3 1 10"}, want...)
	for i, w := range want {
		event, row, what, is := fold.Left(p)
		if got := fmt.Sprint(event, row, what); is != (w != "") || is && got != w || !is && got != "0 0 0" {
			t.Errorf("%d: %s, %v; want %s", i, got, is, w)
		}
		q := once(t, p)
		if !rule.Same(q, plainOnce(p)) {
			t.Errorf("%d: %v; want %v", i, q, plainOnce(p))
		}
		p = q
	}
	if got := []string{tellEvent(p.On[0]), tellEvent(p.On[1]), tellEvent(p.On[2]), tellEvent(p.On[3]), tellEvent(p.Miss)}; !slices.Equal(got, []string{"block(insert 0 0, evict 0 0)", "none", "block(set 0(num 1))", "block(if(at 0, block(forget)))", "none"}) {
		t.Errorf("%q", got)
	}
	if q := run(t, api.Plan{}); !rule.Same(q, api.Plan{}) {
		t.Errorf("Run of no plan: %v", q)
	}
	if q := once(t, api.Plan{Miss: acts("block")}); !rule.Same(q, api.Plan{}) {
		t.Errorf("Once of an empty miss: %v", q)
	}
}

// wantAll wants what is left, one behind the other, and what there is at last.
func wantAll(t *testing.T, event, steps, last string) {
	t.Helper()
	p := plan(acts(event))
	folded := run(t, p)
	var list []string
	for left(t, p) != "nothing" {
		list = append(list, left(t, p))
		p = once(t, p)
	}
	if got := strings.Join(list, "; "); got != steps {
		t.Errorf("%s: %s; want %s", event, got, steps)
	}
	if got := tellEvent(p.Miss); got != last || !rule.Same(p, folded) {
		t.Errorf("%s: %s, %s; want %s", event, got, tellEvent(folded.Miss), last)
	}
}

func TestExamples(t *testing.T) {
	wantAll(t, "block(if(eq(num 3, num 3), block(forget)))", "1 at 2; 8 at 1; 17 at 1", "block(forget)")
	wantStep(t, "if(not(at 0), block)", "9 at 1", "if(at 0, block, block)")
	wantAll(t, "block(if(not(at 0), block))", "9 at 1; 10 at 1; 11 at 1; 19 at 0", "none")
	wantAll(t, "block(take 0 1, tell, loose)", "18 at 1", "block(evict 0 1)")
	wantAll(t, "block(set 0(mul(num 0, tag 0(x))))", "", "block(set 0(mul(num 0, tag 0(x))))")
	wantStep(t, "if(lt(var 0, len 0), block(if(lt(var 0, len 0), block(insert 0 0), block(insert 1 0)), forget))", "12 at 1", "if(lt(var 0, len 0), block(block(insert 0 0), forget))")
	wantAll(t, "block(if(lt(var 0, len 0), block(if(lt(var 0, len 0), block(insert 0 0), block(insert 1 0)), forget)))", "12 at 1; 17 at 6", "block(if(lt(var 0, len 0), block(insert 0 0, forget)))")
	wantAll(t, "block(loop 5(eq(tag 0(end 0 1), num 1), block))", "", "block(loop 5(eq(tag 0(end 0 1), num 1), block))")
}

func TestP1303(t *testing.T) {
	wantAll(t, "block(if(eq(bool 0, eq(bool 0, at 1)), block(forget)))", "7 at 2; 9 at 1; 7 at 2; 9 at 1; 10 at 1", "block(if(at 1, block(forget)))")
	wantAll(t, "block(loop 1(at 0, block(take 2 0, loose)))", "15 at 1; 18 at 4", "block(if(at 0, block(drop 2 0)))")
	wantAll(t, "block(loop 1(bool 1, block(loop 1(bool 1, block(forget)))))", "15 at 1; 8 at 1; 17 at 1; 15 at 1; 8 at 1; 17 at 1", "block(forget)")
	// An RTag goes, and what is around it is harmless then.
	wantAll(t, "block(set 1(mul(num 0, min(var 0, mul(num 1, var 1)))), if(or(not(and(bool 0, "+tag+")), bool 1), block(forget)))", "6 at 2; 2 at 6; 3 at 4; 8 at 3; 17 at 3", "block(set 1(num 0), forget)")
	wantAll(t, "block(loop 3(eq(at 1, or(bool 1, "+tag+")), block))", "2 at 4; 14 at 1; 19 at 0", "none")
	// What asks the same comes to the first place when what stood ahead of it goes.
	wantAll(t, "block(if(at 0, block(set 0(var 0), if(at 0, block), block(block(if(at 0, block(forget), block(insert 0 0)))))))", "16 at 4; 12 at 1; 17 at 4; 17 at 4; 17 at 4; 12 at 1; 17 at 4", "block(if(at 0, block(forget)))")
	wantAll(t, "block(if(at 0, block(forget), block(if(at 0, block(forget)), if(not(at 0), block(insert 0 0)))))", "13 at 1; 9 at 6; 13 at 1; 17 at 6", "block(if(at 0, block(forget), block(insert 0 0)))")
	// It becomes the same.
	wantAll(t, "block(if(lt(var 0, num 3), block(if(lt(add(num 0, var 0), add(num 1, num 2)), block(forget)))))", "5 at 8; 1 at 9; 12 at 1; 17 at 6", "block(if(lt(var 0, num 3), block(forget)))")
	wantAll(t, "block(if(and(at 0, eq(bool 0, at 1)), block(if(and(at 0, not(at 1)), block(forget)))))", "7 at 4; 12 at 1; 17 at 7", "block(if(and(at 0, not(at 1)), block(forget)))")
	wantAll(t, "block(if(and(at 0, not(at 1)), block(forget), block(if(and(at 0, eq(at 1, bool 0)), block(forget), block(insert 0 0)))))", "7 at 12; 13 at 1; 17 at 9", "block(if(and(at 0, not(at 1)), block(forget), block(insert 0 0)))")
	wantAll(t, "block(if(not(at 0), block(if(not(at 0), block(forget), block(insert 0 0)))))", "9 at 1; 9 at 5; 13 at 1; 17 at 5", "block(if(at 0, block, block(forget)))")
}

func wantRefused(t *testing.T, what string, p api.Plan) {
	t.Helper()
	event, row, which, is := fold.Left(p)
	if is || event != 0 || row != 0 || which != 0 {
		t.Errorf("%s: Left: %d, %d, %d, %v", what, event, row, which, is)
	}
	for call, do := range map[string]func(api.Plan) (api.Plan, api.Errno){"Once": fold.Once, "Run": fold.Run} {
		q, err := do(p)
		if err != api.ErrPlan || q.Ghost != nil || q.Vars != nil || q.Tags != nil || q.On != nil || q.Miss != nil {
			t.Errorf("%s: %s: %.300v, %v", what, call, q, err)
		}
	}
}

// Plans that are not right.
func TestRefused(t *testing.T) {
	for _, text := range []string{"block(tell)", "block(take 0 1, insert 0 0, loose)", "block(take 0 0, loose)", "block(if(num 1, block))", "forget", "block(set 2(var 2))", "block(set 0(num 1073741825))", "block(loop -1(at 0, block))", "block(if(bool 2, block(forget)))", "block(set 0(bool 1))"} {
		wantRefused(t, text, plan(acts(text)))
	}
	rows := acts("block(set 0(var 0))")
	wantRefused(t, "too few rows", plan(rows[:2]))
	wantRefused(t, "too many rows", plan(append(rows, rows...)))
	p := plan(rows)
	p.On = p.On[:3]
	wantRefused(t, "too few events", p)
	p = plan(rows)
	p.Tags = []int{0}
	wantRefused(t, "a tag's greatest", p)
	// One event is enough, though something is left of another one.
	p = plan(acts("block(tell)"))
	p.On[0] = acts("block")
	wantRefused(t, "a miss", p)
	p = plan(acts("block"))
	p.On[3] = acts("block(tell)")
	wantRefused(t, "an event", p)
	block := api.Act{Kind: api.RBlock, Kids: 1}
	wantRefused(t, "far too many", plan(append(slices.Repeat([]api.Act{block}, 131072), api.Act{Kind: api.RBlock})))
}
