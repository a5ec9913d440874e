package verify_test

import (
	"fmt"
	"regexp"
	"slices"
	"strings"
	"testing"

	"winnow/api"
	"winnow/code"
)

// taken wants a program to be taken, with that fuel of the events that it has (by queue, the miss last), and these heights, if they are told.
func taken(t *testing.T, text string, fuel string, heights ...int) {
	t.Helper()
	p := program(text)
	j := holds(t, p)
	if j.fault != (api.Fault{}) {
		t.Errorf("%s: %v", text, j.fault)
		return
	}
	var list []int
	for event, at := range append(slices.Clone(p.On), p.Miss) {
		n := append(slices.Clone(j.costs.On), j.costs.Miss)[event]
		if at >= 0 {
			list = append(list, n)
		} else if n != 0 {
			t.Errorf("%s: %v", text, j.costs)
		}
	}
	if got := strings.Trim(fmt.Sprint(list), "[]"); got != fuel {
		t.Errorf("%s: %s; want %s", text, got, fuel)
	}
	if len(heights) > 0 && !slices.Equal(j.heights, heights) {
		t.Errorf("%s: %v; want %v", text, j.heights, heights)
	}
}

// refused wants a fault at a place.
func refused(t *testing.T, text string, err api.Errno, at int) {
	t.Helper()
	if j := holds(t, program(text)); j.fault != (api.Fault{Err: err, At: at}) {
		t.Errorf("%s: %v; want %v at %d", text, j.fault, err, at)
	}
}

func TestExamples(t *testing.T) {
	taken(t, "q0: move 0 0, end, miss: len 0, cap 0, eq, else E, evict 0 1, E: insert 0 0, end", "2 7", 0, 0, 0, 1, 2, 1, 0, 0, 0)
	refused(t, "num 1, end", api.ErrStack, 1)
	refused(t, "end, end", api.ErrDead, 1)
	refused(t, "insert 0 0", api.ErrEnd, 0)
	refused(t, "bool 1, num 1, eq, end", api.ErrMix, 2)
	refused(t, "take 0 0, end", api.ErrHand, 1)
	refused(t, "jump 0", api.ErrJump, 0)
	taken(t, "loop 3, turn 5, bool 1, quit 5, again 1, end", "15", 0, 0, 0, 1, 0, 0)
	refused(t, "loop 3, turn 5, bool 1, quit 5, again 2, end", api.ErrJump, 4)
	refused(t, "loop 3, turn 5, bool 1, quit 4, again 1, end", api.ErrJump, 3)
	refused(t, "loop 3, turn 4, bool 1, again 1, end", api.ErrJump, 3)
	refused(t, "else 1, end", api.ErrStack, 0)
	refused(t, "bool 1, else 3, num 1, end", api.ErrMix, 2)
	refused(t, "loop 4194304, A: turn D, loop 4194304, B: turn E, loop 4194304, C: turn F, again C, F: again B, E: again A, D: end", api.ErrFuel, 0)
}

// What may not be written has code's error, at 0.
func TestP1601Check(t *testing.T) {
	spoilt := func(change func(p *api.Program)) api.Program {
		p := program("insert 0 0, jump 2, end")
		change(&p)
		return p
	}
	for n, p := range []api.Program{
		spoilt(func(p *api.Program) { p.Miss = 3 }),
		spoilt(func(p *api.Program) { p.Miss = -2 }),
		spoilt(func(p *api.Program) { p.On[3] = 3 }),
		spoilt(func(p *api.Program) { p.On = p.On[:3] }),
		spoilt(func(p *api.Program) { p.Tags[0] = 0 }),
		spoilt(func(p *api.Program) { p.Vars[0].Init = 10 }),
		spoilt(func(p *api.Program) { p.Ghost, p.On = make([]bool, 17), make([]int, 17) }),
		spoilt(func(p *api.Program) { p.Code[2].Op = api.ICount }),
		spoilt(func(p *api.Program) { p.Code[2].Op = -1 }),
		spoilt(func(p *api.Program) { p.Code[0].A = 4 }),
		spoilt(func(p *api.Program) { p.Code[1].A = 3 }),
		spoilt(func(p *api.Program) { p.Code[2].D = 1 }),
		// The fault of the place stands behind.
		spoilt(func(p *api.Program) { p.Miss, p.Code[2].D = -1, 1 }),
		{Miss: 0},
	} {
		err := code.Check(p)
		if got := answers(t, p); err == api.OK || got.fault != (api.Fault{Err: err}) || len(got.heights)+len(got.costs.On)+got.costs.Miss > 0 {
			t.Errorf("%d: %v; want %v at 0", n, got, err)
		}
	}
}

func TestP1601NoEvents(t *testing.T) {
	want(t, api.Program{Miss: -1}, judged{})
	want(t, api.Program{Miss: -1, Ghost: []bool{true, false}, On: []int{-1, -1}}, judged{costs: api.Costs{On: []int{0, 0}}})
	want(t, api.Program{Miss: -1, Code: []api.Instr{{Op: api.IEnd}}}, judged{fault: api.Fault{Err: api.ErrDead}})
	want(t, api.Program{Code: []api.Instr{{Op: api.IEnd}}}, judged{costs: api.Costs{Miss: 1}, heights: []int{0}})
}

func TestP1601Dead(t *testing.T) {
	refused(t, "forget, jump 3, forget, end", api.ErrDead, 2)
	refused(t, "forget, miss: forget, end", api.ErrDead, 0)
	refused(t, "end, again 1", api.ErrDead, 1)
	refused(t, "loop 1, T: turn E, again T, again T, E: end", api.ErrDead, 3)
	// What would come to it stands behind.
	refused(t, "jump B, A: end, B: again A", api.ErrDead, 1)
	refused(t, "jump B, A: end, B: bool 1, else A, end", api.ErrDead, 1)
	taken(t, "miss: jump B, q1: end, B: end", "1 2")
	// Whatever else is wrong with it.
	refused(t, "end, add, move 1 0", api.ErrDead, 1)
}

// grips are how the hand comes to hold what a letter says.
var grips = map[byte]string{'e': "", 'g': "take 3 1, ", 'h': "take 2 0, ", 't': "take 0 1, tell, "}

// pushes gives operands of these types.
func pushes(types string) string {
	return strings.NewReplacer("n", "num 7, ", "b", "bool 0, ", "==", "num 1, num 2, ").Replace(types)
}

// then is a text with one more instruction, and its place. Its numbers are those, or some that may be; it goes on at the next place where it names one.
func then(before string, op int, numbers ...int) (text string, at int) {
	at = strings.Count(before, ",")
	e := table[op]
	if len(numbers) == 0 {
		numbers = map[string][]int{"jump": {at + 1}, "else": {at + 1}, "turn": {at + 1}, "quit": {at + 1}, "drop": {1, 0}, "spill": {0, 0, 1, 0}}[e.name]
	}
	text = before + e.name
	for _, n := range append(slices.Clone(numbers), 0, 0, 0, 0)[:e.operands] {
		text += fmt.Sprint(" ", n)
	}
	return text, at
}

func TestP1601Hands(t *testing.T) {
	for op, e := range table {
		for hand, grip := range grips {
			text, at := then(grip+pushes(e.takes), op)
			is := strings.Contains(e.hands, string(hand)) || e.name == "give" && hand == 'h'
			if j := holds(t, program(text+", end")); is == (j.fault == (api.Fault{Err: api.ErrHand, At: at})) {
				t.Errorf("%s: %v", text, j.fault)
			}
		}
	}
}

// All rows of a few that fill and empty the hand.
func TestP1601HandsInTurn(t *testing.T) {
	words := map[byte]string{'R': "take 0 1, ", 'G': "take 3 0, ", 'r': "give 2 1, ", 'g': "give 1 0, ", 'T': "tell, ", 'L': "loose, "}
	right := regexp.MustCompile("^(Rr|RT[Lg]|G[gL])*$")
	front := regexp.MustCompile("^(Rr|RT[Lg]|G[gL])*(R|RT|G)?$")
	rows := []string{""}
	for n := 0; n < len(rows); n++ {
		text := ""
		for _, letter := range []byte(rows[n]) {
			text += words[letter]
		}
		first := 0
		for first < len(rows[n]) && front.MatchString(rows[n][:first+1]) {
			first++
		}
		if right.MatchString(rows[n]) {
			taken(t, text+"end", fmt.Sprint(len(rows[n])+1))
		} else {
			refused(t, text+"end", api.ErrHand, first)
		}
		if len(rows[n]) < 5 {
			for letter := range words {
				rows = append(rows, rows[n]+string(letter))
			}
		}
	}
}

func TestP1601HandIsKept(t *testing.T) {
	taken(t, "take 0 0, num 1, set 0, len 0, markx 0, total, markend 0 1 1, at 0, bool 1, eq, not, tell, tagx 1, tagend 1 0 0, le, eq, loose, else 18, end", "19")
	taken(t, "take 1 0, size, cap 2, min, neg, var 1, max, num 3, mul, num 4, div, num 5, add, num 6, sub, num 7, lt, loose, else 19, end", "20")
	refused(t, "take 1 0, num 1, set 0, end", api.ErrHand, 3)
	// What jumps does not go on with the hand full, even to where it is emptied.
	refused(t, "take 1 0, bool 1, else 3, loose, end", api.ErrHand, 2)
	refused(t, "take 1 0, jump 2, loose, end", api.ErrHand, 1)
	refused(t, "take 0 0, loop 1, turn 3, tell, loose, end", api.ErrHand, 1)
}

// rows are all rows of at most so many types.
func rows(most int) []string {
	list := []string{""}
	for n := 0; len(list[n]) < most; n++ {
		list = append(list, list[n]+"n", list[n]+"b")
	}
	return list
}

// pops takes operands of these types, the last one first, behind so many instructions.
func pops(types string, at int) string {
	text := ""
	for n := len(types) - 1; n >= 0; n-- {
		at++
		if types[n] == 'n' {
			text += "set 1, "
		} else {
			text += fmt.Sprintf("else %d, ", at)
		}
	}
	return text
}

// empties is what empties the hand behind one that may find it so.
var empties = map[string]string{"take": "give 0 1, ", "tell": "loose, ", "give": "", "loose": ""}

func isLoops(name string) bool {
	return slices.Contains([]string{"loop", "turn", "quit", "again"}, name)
}

// Each instruction behind each row of operands. What is taken is taken with a fuel of one for each instruction.
func TestP1601Operands(t *testing.T) {
	for op, e := range table {
		grip := map[string]string{"tell": grips['h'], "give": grips['h'], "loose": grips['t']}[e.name]
		for _, have := range rows(4) {
			text, at := then(grip+pushes(have), op)
			left, is := strings.CutSuffix(have, e.takes)
			if e.takes == "==" {
				if left, is = strings.CutSuffix(have, "nn"); !is {
					left, is = strings.CutSuffix(have, "bb")
				}
			}
			switch {
			case len(have) < len(e.takes), e.name == "end" && have != "":
				refused(t, text+", end", api.ErrStack, at)
			case !is:
				refused(t, text+", end", api.ErrMix, at)
			case e.name == "end":
				taken(t, "end", "1")
			case isLoops(e.name):
				refused(t, text+", end", api.ErrJump, at)
			default:
				text += ", " + empties[e.name]
				text += pops(left+e.gives, strings.Count(text, ",")) + "end"
				taken(t, text, fmt.Sprint(strings.Count(text, ",")+1))
			}
		}
	}
}

// Heights, by hand: what lies ahead of each instruction.
func TestP1603(t *testing.T) {
	taken(t, "num 1, bool 1, at 0, eq, not, else 6, tagx 0, neg, add, set 0, end", "11", 0, 1, 2, 3, 2, 2, 1, 2, 2, 1, 0)
	taken(t, "bool 1, loop 2, T: turn E, num 2, set 1, bool 1, quit E, num 3, set 0, again T, E: else 11, end", "21", 0, 1, 1, 1, 2, 1, 2, 1, 2, 1, 1, 0)
	taken(t, "q2: end, miss: total, set 0, q0: q1: end", "1 1 1 3", 0, 0, 1, 0)
}

func TestP1601Most(t *testing.T) {
	fill := times(256, "num 1")
	refused(t, fill+", num 1, end", api.ErrStack, 256)
	refused(t, fill+", at 0, end", api.ErrStack, 256)
	refused(t, fill+", num 1", api.ErrStack, 256)
	taken(t, fill+", neg, "+times(255, "add")+", set 0, end", "514")
	taken(t, times(256, "bool 1")+", not, "+times(255, "eq")+", else 513, end", "514")
	taken(t, fill+", forget, take 1 0, loose, jump 260, loop 2, T: turn E, insert 0 0, again T, E: "+times(256, "set 0")+", end", fmt.Sprint(256+4+1+2*3+1+257))
	refused(t, times(255, "num 1")+", bool 1, else 257, num 1, num 1, end", api.ErrStack, 258)
	// The types of all of them are known.
	for _, odd := range []int{0, 1, 62, 63, 64, 65, 127, 128, 191, 192, 254, 255} {
		have := strings.Repeat("n", odd) + "b" + strings.Repeat("n", 255-odd)
		text := pushes(have)
		taken(t, text+pops(have, 256)+"end", "513")
		refused(t, text+times(256, "set 0")+", end", api.ErrMix, 256+255-odd)
		have = strings.Repeat("b", odd) + "n" + strings.Repeat("b", 255-odd)
		text = pushes(have)
		taken(t, text+pops(have, 256)+"end", "513")
		refused(t, text+pops(strings.Repeat("b", 256), 256)+"end", api.ErrMix, 256+255-odd)
	}
}

func TestP1601Queues(t *testing.T) {
	kinds := "rgrg"
	for _, name := range []string{"insert", "move", "take", "evict", "drop", "shift", "spill"} {
		for a := range 4 {
			for c := range 4 {
				have := kinds[a:a+1] + kinds[c:c+1]
				text, _ := then("", opOf(name), a, 1, c, 0)
				is := map[string]string{"insert": "rr rg gr gg", "take": "rr rg gr gg", "move": "rr rg", "evict": "rr rg", "drop": "gr gg", "shift": "rr gg", "spill": "rg"}[name]
				switch {
				case !strings.Contains(is, have):
					refused(t, text+", end", api.ErrOperand, 0)
				case name != "take":
					taken(t, text+", end", "2")
				}
			}
		}
	}
}
