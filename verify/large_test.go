package verify_test

import (
	"testing"
	"time"

	"winnow/api"
)

// wantSoon wants code of the miss's to be answered in a moment: that fault, or that fuel.
func wantSoon(t *testing.T, what string, list []api.Instr, fault api.Fault, fuel int) judged {
	t.Helper()
	p := program("end")
	p.Code = list
	start := time.Now()
	j := answers(t, p)
	if took := time.Since(start); took > 10*time.Second {
		t.Errorf("%s took %v", what, took)
	}
	if j.fault != fault || j.costs.Miss != fuel {
		t.Errorf("%s: %v, %v; want %v, %d", what, j.fault, j.costs, fault, fuel)
	}
	return j
}

// nested are so many loops in one another, of so many rounds each.
func nested(n, rounds int) []api.Instr {
	var list []api.Instr
	for at := range n {
		list = append(list, api.Instr{Op: api.ILoop, A: rounds}, api.Instr{Op: api.ITurn, A: 3*n - at})
	}
	for at := n - 1; at >= 0; at-- {
		list = append(list, api.Instr{Op: api.IAgain, A: 2*at + 1})
	}
	return append(list, end)
}

func TestLargeLoops(t *testing.T) {
	n := (api.MaxCode - 1) / 3
	// Of no rounds: ILoop, the last turn, IEnd. Of one round: what is in it too, once, and a turn.
	wantSoon(t, "loops without rounds", nested(n, 0), api.Fault{}, 3)
	wantSoon(t, "loops of one round", nested(n, 1), api.Fault{}, 4*n+1)
	wantSoon(t, "loops of two rounds", nested(n, 2), api.Fault{Err: api.ErrFuel}, 0)
	wantSoon(t, "loops of the most rounds", nested(n, api.MaxLoop), api.Fault{Err: api.ErrFuel}, 0)
	// The innermost one begins an outer one again, and leaves an outer one.
	list := nested(n, 1)
	list[2*n].A = 1
	wantSoon(t, "again of the outermost", list, api.Fault{Err: api.ErrJump, At: 2 * n}, 0)
	list = nested(n, 1)
	list[3*n-1].A = 3
	wantSoon(t, "again of the second outermost", list, api.Fault{Err: api.ErrJump, At: 3*n - 1}, 0)
	var side []api.Instr
	for at := range n {
		side = append(side, api.Instr{Op: api.ILoop, A: 2}, api.Instr{Op: api.ITurn, A: 3*at + 3}, api.Instr{Op: api.IAgain, A: 3*at + 1})
	}
	wantSoon(t, "loops side by side", append(side, end), api.Fault{}, 6*n+1)
}

func TestLargeStraight(t *testing.T) {
	var list []api.Instr
	for range api.MaxCode - 1 {
		list = append(list, api.Instr{Op: api.IForget})
	}
	wantSoon(t, "doings", append(list, end), api.Fault{}, api.MaxCode)
	wantSoon(t, "no end", append(list, list[0]), api.Fault{Err: api.ErrEnd, At: api.MaxCode - 1}, 0)
	wantSoon(t, "one too many", append(list, end, end), api.Fault{Err: api.ErrProg}, 0)
	list = nil
	for range 256 {
		list = append(list, api.Instr{Op: api.IBool})
	}
	for len(list) < api.MaxCode-257 {
		list = append(list, api.Instr{Op: api.INot})
	}
	for range 256 {
		list = append(list, api.Instr{Op: api.IElse, A: len(list) + 1})
	}
	j := wantSoon(t, "as many operands as may be", append(list, end), api.Fault{}, api.MaxCode)
	if len(j.heights) != api.MaxCode || j.heights[1000] != 256 || j.heights[api.MaxCode-2] != 1 {
		t.Errorf("%d heights", len(j.heights))
	}
}

// Ways that all go on at one place, and a row of jumps.
func TestLargeJumps(t *testing.T) {
	n := (api.MaxCode - 1) / 2
	var list []api.Instr
	for range n {
		list = append(list, api.Instr{Op: api.IAt}, api.Instr{Op: api.IElse, A: 2 * n})
	}
	wantSoon(t, "all to the end", append(list, end), api.Fault{}, 2*n+1)
	list = nil
	for at := range api.MaxCode - 1 {
		list = append(list, api.Instr{Op: api.IJump, A: at + 1})
	}
	wantSoon(t, "jumps", append(list, end), api.Fault{}, api.MaxCode)
}
