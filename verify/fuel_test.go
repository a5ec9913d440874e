package verify_test

import (
	"testing"

	"winnow/api"
)

// spend writes code that takes just so much fuel, and ends as told; it stands behind so many instructions.
func spend(n, at int, last api.Instr) []api.Instr {
	rest, body := n-1, 0
	if n > 3000 {
		body = (n-3)/1024 - 1
		rest = n - 3 - 1024*(body+1)
	}
	var list []api.Instr
	for range rest {
		list = append(list, api.Instr{Op: api.IForget})
	}
	if body > 0 {
		turn := at + len(list) + 1
		inner := spend(body, turn+1, api.Instr{Op: api.IAgain, A: turn})
		list = append(list, api.Instr{Op: api.ILoop, A: 1024}, api.Instr{Op: api.ITurn, A: turn + 1 + len(inner)})
		list = append(list, inner...)
	}
	return append(list, last)
}

var end = api.Instr{Op: api.IEnd}

// around is a loop of so many rounds around what takes just so much fuel.
func around(rounds, fuel, at int, last ...api.Instr) []api.Instr {
	body := spend(fuel, at+2, api.Instr{Op: api.IAgain, A: at + 1})
	list := append([]api.Instr{{Op: api.ILoop, A: rounds}, {Op: api.ITurn, A: at + 2 + len(body)}}, body...)
	return append(list, last...)
}

func ofMiss(code []api.Instr) api.Program { return api.Program{Code: code} }

func TestP1602(t *testing.T) {
	taken(t, "end", "1")
	taken(t, "forget, forget, end", "3")
	taken(t, "bool 1, else B, jump E, B: forget, forget, E: end", "5")
	taken(t, "bool 1, else B, forget, forget, jump E, B: forget, E: end", "6")
	taken(t, "bool 1, else E, forget, forget, E: end", "5")
	taken(t, "bool 1, else B, end, B: end", "3")
	taken(t, "loop 0, T: turn E, again T, E: end", "3")
	taken(t, "loop 1, T: turn E, again T, E: end", "5")
	taken(t, "loop 7, T: turn E, bool 1, quit E, forget, again T, E: forget, forget, end", "40")
	taken(t, "loop 2, A: turn D, loop 3, B: turn C, again B, C: again A, D: end", "23")
	taken(t, "loop 2, A: turn B, again A, B: loop 3, C: turn D, again C, D: end", "15")
	// What is behind the quit that leaves counts once.
	taken(t, "loop 5, T: turn E, bool 0, quit E, forget, forget, forget, forget, again T, E: end", "43")
	// A loop that begins again early, and late.
	taken(t, "loop 5, T: turn E, bool 0, else B, again T, B: forget, again T, E: end", "28")
	taken(t, "loop 5, T: turn E, bool 0, else B, forget, again T, B: again T, E: end", "28")
	taken(t, "q0: q2: forget, q1: bool 1, else E, miss: forget, E: end", "5 4 5 2")
}

func TestP1602Exactly(t *testing.T) {
	for _, n := range []int{1, 2, 2999, 3000, 3001, 4096, 99999, 1 << 30, 1<<41 + 12345, 1<<59 + 1<<29 - 1, 1<<60 - 1025, 1<<60 - 1, 1 << 60} {
		if j := holds(t, ofMiss(spend(n, 0, end))); j.fault != (api.Fault{}) || j.costs.Miss != n {
			t.Errorf("%d: %v, %v", n, j.costs, j.fault)
		}
	}
	for _, n := range []int{1<<60 + 1, 1<<60 + 2, 1<<60 + 1025, 1 << 61, 1<<61 + 1, 1<<62 - 1, 1 << 62, 1<<62 + 1, 1<<63 - 1} {
		if j := holds(t, ofMiss(spend(n, 0, end))); j.fault != (api.Fault{Err: api.ErrFuel}) {
			t.Errorf("%d: %v, %v", n, j.costs, j.fault)
		}
	}
}

// Sums and products do not wrap round.
func TestP1602Saturates(t *testing.T) {
	for _, list := range [][]api.Instr{
		around(2, 1<<62-1, 0, end),
		around(4, 1<<62-1, 0, end),
		around(4, 1<<62-2, 0, end),
		around(1<<22, 1<<42-1, 0, end),
		around(1<<22, 1<<42-2, 0, end),
		around(1<<22, 1<<62, 0, end),
		around(1<<22-1, 1<<62-1, 0, end),
		around(3, (1<<62)/3+5, 0, end),
		around(1<<22, 1<<41-1, 0, end),
		around(1<<22, 1<<40-1, 0, end),
	} {
		if j := holds(t, ofMiss(list)); j.fault != (api.Fault{Err: api.ErrFuel}) {
			t.Errorf("%v: %v, %v", list[:2], j.costs, j.fault)
		}
	}
	// Too much, and too much behind it; more than once.
	var list []api.Instr
	for range 5 {
		list = append(list, around(1<<22, 1<<62, len(list))...)
		if j := holds(t, ofMiss(append(list[:len(list):len(list)], end))); j.fault != (api.Fault{Err: api.ErrFuel}) {
			t.Errorf("%v, %v", j.costs, j.fault)
		}
	}
	// No rounds of too much are nothing, but what is behind counts.
	if j := holds(t, ofMiss(around(0, 1<<62, 0, end))); j.fault != (api.Fault{}) || j.costs.Miss != 3 {
		t.Errorf("%v, %v", j.costs, j.fault)
	}
	list = around(0, 1<<62, 0)
	list = append(list, spend(1<<60-1, len(list), end)...)
	if j := holds(t, ofMiss(list)); j.fault != (api.Fault{Err: api.ErrFuel}) {
		t.Errorf("%v, %v", j.costs, j.fault)
	}
}

// The first event that takes too much is told: by queue, the miss last; not by place.
func TestP1601Fuel(t *testing.T) {
	much := "loop 4194304, A%: turn D%, loop 4194304, B%: turn E%, loop 4194304, C%: turn F%, again C%, F%: again B%, E%: again A%, D%: end, "
	one, two, three := marked(much, "1"), marked(much, "2"), marked(much, "3")
	refused(t, "miss: "+one+"q1: "+two+"q0: "+three, api.ErrFuel, 20)
	refused(t, "miss: "+one+"q3: "+two+"q2: end, q1: end", api.ErrFuel, 10)
	refused(t, "q3: end, miss: "+one+"q0: end", api.ErrFuel, 1)
	refused(t, "q2: q1: miss: end, q3: "+one, api.ErrFuel, 1)
	// Only what an event begins at counts.
	refused(t, "q0: "+one+"miss: end", api.ErrFuel, 0)
	// A fault at a place goes ahead of fuel.
	refused(t, "miss: "+one+"end", api.ErrDead, 10)
	refused(t, "miss: "+one+"q0: forget", api.ErrEnd, 10)
	// An event that begins behind the loops takes little.
	taken(t, "miss: loop 4194304, A: turn D, loop 4194304, B: turn E, again B, E: again A, D: q0: end", "1 35184388866051")
}
