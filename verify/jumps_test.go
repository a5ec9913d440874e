package verify_test

import (
	"testing"

	"winnow/api"
)

func TestP1601Forward(t *testing.T) {
	taken(t, "jump 1, end", "2")
	taken(t, "bool 1, else 2, end", "3")
	refused(t, "forget, jump 0", api.ErrJump, 1)
	refused(t, "forget, jump 1, end", api.ErrJump, 1)
	refused(t, "bool 1, else 1, end", api.ErrJump, 1)
	refused(t, "bool 1, else 0, end", api.ErrJump, 1)
	refused(t, "loop 1, T: turn T, again T, end", api.ErrJump, 1)
	refused(t, "loop 1, T: turn 0, again T, end", api.ErrJump, 1)
	refused(t, "loop 1, T: turn E, bool 1, quit 3, again T, E: end", api.ErrJump, 3)
	refused(t, "loop 1, T: turn E, bool 1, quit 0, again T, E: end", api.ErrJump, 3)
	// The place of its ITurn, but not above its own.
	refused(t, "loop 1, T: turn E, jump X, E: end, X: bool 1, quit E, again T", api.ErrJump, 5)
	refused(t, "loop 1, T: turn E, jump X, E: end, X: bool 1, quit 6, again T", api.ErrJump, 5)
}

func TestP1601ToTurns(t *testing.T) {
	refused(t, "bool 0, else T, loop 3, T: turn E, again T, E: end", api.ErrJump, 1)
	refused(t, "jump T, q0: loop 3, T: turn E, again T, E: miss: end", api.ErrDead, 0)
	refused(t, "miss: jump T, q0: loop 3, T: turn E, again T, E: end", api.ErrJump, 0)
	refused(t, "loop 1, A: turn B, again A, q0: loop 1, B: turn E, miss: again B, E: end", api.ErrDead, 0)
	refused(t, "miss: loop 1, A: turn B, again A, q0: loop 1, B: turn E, again B, E: end", api.ErrJump, 1)
	refused(t, "miss: loop 1, A: turn B, bool 1, quit B, again A, q0: loop 1, B: turn E, again B, E: end", api.ErrJump, 1)
	refused(t, "miss: loop 1, A: turn E, bool 1, quit B, again A, q0: loop 1, B: turn E, again B, E: end", api.ErrJump, 3)
	// To an ILoop one may.
	taken(t, "bool 0, else L, forget, L: loop 3, T: turn E, again T, E: end", "12")
	taken(t, "loop 1, A: turn B, again A, B: loop 1, C: turn E, again C, E: end", "9")
}

func TestP1601Pairs(t *testing.T) {
	refused(t, "turn 1, end", api.ErrJump, 0)
	refused(t, "forget, turn 2, end", api.ErrJump, 1)
	refused(t, "loop 1, turn E, turn E, E: end", api.ErrJump, 2)
	refused(t, "loop 1, end", api.ErrJump, 0)
	refused(t, "loop 1, loop 1, T: turn E, again T, E: end", api.ErrJump, 0)
	refused(t, "loop 1, forget, T: turn E, again T, E: end", api.ErrJump, 0)
	refused(t, "forget, loop 1", api.ErrJump, 1)
	refused(t, "miss: loop 1, q3: T: turn E, again T, E: end", api.ErrJump, 1)
	refused(t, "q0: loop 1, miss: T: turn E, again T, E: end", api.ErrJump, 1)
	refused(t, "loop 1, miss: T: turn E, again T, E: end", api.ErrDead, 0)
	// An event may begin at its ILoop, and at where it leaves.
	taken(t, "q1: loop 1, T: turn E, again T, miss: E: end", "5 1")
}

func TestP1601OpenLoops(t *testing.T) {
	refused(t, "bool 1, quit 2, end", api.ErrJump, 1)
	refused(t, "forget, again 0", api.ErrJump, 1)
	refused(t, "again 0", api.ErrJump, 0)
	refused(t, "loop 1, T: turn E, again T, E: bool 1, quit X, X: end", api.ErrJump, 4)
	refused(t, "loop 1, T: turn E, again T, E: again T", api.ErrJump, 3)
	refused(t, "loop 1, T: turn E, end, E: end", api.ErrJump, 2)
	refused(t, "loop 1, A: turn D, loop 1, B: turn C, again B, C: end, D: end", api.ErrJump, 5)
	// Of another loop than the innermost one.
	refused(t, "loop 1, A: turn D, loop 1, B: turn C, bool 1, quit D, again B, C: again A, D: end", api.ErrJump, 5)
	refused(t, "loop 1, A: turn D, loop 1, B: turn C, again A, C: again A, D: end", api.ErrJump, 4)
	refused(t, "loop 1, A: turn D, loop 1, B: turn C, again B, C: again B, D: end", api.ErrJump, 5)
	refused(t, "loop 1, A: turn D, loop 1, B: turn C, again B, C: bool 1, quit C, again A, D: end", api.ErrJump, 6)
	taken(t, "loop 1, A: turn D, loop 1, B: turn C, bool 1, quit C, again B, C: bool 1, quit D, again A, D: end", "13")
	refused(t, "loop 3, T: turn E, again 0, E: end", api.ErrJump, 2)
	refused(t, "loop 3, T: turn E, again 2, E: end", api.ErrJump, 2)
	refused(t, "loop 3, T: turn E, again 3, E: end", api.ErrJump, 2)
	// Behind the inner one the outer one is the innermost again, whichever way it was left.
	taken(t, "loop 1, A: turn D, loop 1, B: turn C, bool 1, quit C, again B, C: again A, D: end", "11")
	taken(t, "loop 2, A: turn D, loop 2, B: turn C, loop 2, X: turn Y, bool 1, quit Y, again X, Y: bool 0, quit C, again B, C: bool 1, quit D, again A, D: end", "71")
}

func TestP1601OperandsOfLoops(t *testing.T) {
	refused(t, "num 1, loop 1, T: turn E, set 0, again T, E: set 0, end", api.ErrJump, 4)
	refused(t, "num 1, loop 1, T: turn E, num 1, again T, E: set 0, end", api.ErrJump, 4)
	refused(t, "num 1, loop 1, T: turn E, set 0, bool 1, again T, E: set 0, end", api.ErrJump, 5)
	refused(t, "loop 1, T: turn E, bool 1, again T, E: end", api.ErrJump, 3)
	taken(t, "num 1, loop 2, T: turn E, set 0, num 5, again T, E: set 0, end", "13")
	taken(t, "bool 1, loop 2, T: turn E, not, again T, E: else 6, end", "11")
	// Where it leaves there must be as many as at its ITurn.
	refused(t, "loop 1, T: turn E, num 1, bool 1, quit E, set 0, again T, E: end", api.ErrMix, 4)
	refused(t, "num 1, loop 1, T: turn E, set 0, bool 1, quit E, num 1, again T, E: set 0, end", api.ErrMix, 5)
}

// Loops whose parts do not lie as gen lays them.
func TestP1601OtherLoops(t *testing.T) {
	// The body stands behind where the loop leaves.
	taken(t, "loop 3, T: turn E, jump B, E: end, B: bool 1, else C, forget, C: again T", "21")
	// Two ways to begin again, and two that leave.
	taken(t, "loop 3, T: turn E, bool 1, else B, bool 1, quit E, again T, B: bool 0, quit E, again T, E: end", "21")
	// One that leaves by its rounds alone, one without rounds.
	taken(t, "loop 3, T: turn E, again T, E: end", "9")
	taken(t, "loop 0, T: turn E, forget, again T, E: end", "3")
	// A body that two events share no part of, a loop that one jumps over.
	taken(t, "q0: bool 1, else E, loop 1, T: turn E, again T, miss: E: end", "7 1")
	// Two bodies that go on in one another's room.
	taken(t, "loop 2, A: turn B, jump X, B: loop 2, C: turn D, jump Y, X: again A, Y: again C, D: end", "17")
}

func TestP1601End(t *testing.T) {
	refused(t, "forget", api.ErrEnd, 0)
	refused(t, "end, miss: forget", api.ErrDead, 0)
	refused(t, "q0: end, miss: forget", api.ErrEnd, 1)
	refused(t, "num 1", api.ErrEnd, 0)
	refused(t, "num 1, set 0", api.ErrEnd, 1)
	refused(t, "bool 1, else E, end, E: forget", api.ErrEnd, 3)
	// What does not go on may stand last.
	taken(t, "loop 1, T: turn E, jump X, E: end, X: again T", "6")
}

// Ways that meet with unlike standings.
func TestP1601Meet(t *testing.T) {
	refused(t, "bool 1, else A, num 1, jump E, A: bool 1, E: end", api.ErrMix, 4)
	refused(t, "bool 1, else A, num 1, A: set 0, end", api.ErrMix, 2)
	refused(t, "num 1, bool 1, else A, set 0, A: set 0, end", api.ErrMix, 3)
	refused(t, "bool 1, else A, take 0 0, A: tell, loose, end", api.ErrMix, 2)
	refused(t, "loop 3, turn 3, forget, end", api.ErrMix, 2)
	refused(t, "loop 3, turn E, forget, jump E, E: end", api.ErrMix, 3)
	refused(t, "miss: num 1, q0: set 0, end", api.ErrMix, 0)
	refused(t, "miss: take 1 0, q0: loose, end", api.ErrMix, 0)
	refused(t, "miss: loop 1, T: turn E, q0: again T, E: end", api.ErrMix, 1)
	// Both ways to one place.
	refused(t, "loop 1, turn 2, end", api.ErrMix, 1)
	refused(t, "loop 1, T: turn 4, bool 1, quit 4, end", api.ErrMix, 3)
	taken(t, "bool 1, else 2, end", "3")
	// Other loops, as many.
	refused(t, "loop 1, A: turn C, bool 1, else X, again A, C: loop 1, B: turn D, X: again B, D: end", api.ErrMix, 6)
	refused(t, "loop 1, A: turn C, bool 1, else X, again A, C: forget, X: end", api.ErrMix, 5)
	refused(t, "loop 1, A: turn D, loop 1, B: turn C, bool 1, else X, again B, C: forget, X: again A, D: end", api.ErrMix, 7)
}

// What was taken off leaves nothing behind.
func TestP1601MeetAlike(t *testing.T) {
	taken(t, "bool 1, else A, bool 1, else 4, num 1, jump E, A: num 1, E: set 0, end", "8")
	taken(t, "bool 1, else A, num 1, bool 1, else 5, jump E, A: num 1, E: set 0, end", "8")
	taken(t, "bool 1, else A, num 1, bool 1, not, else 6, num 1, add, jump E, A: size, E: set 0, end", "11")
	taken(t, "bool 1, else A, bool 1, bool 0, eq, jump E, A: at 0, E: else 8, end", "8")
	taken(t, "bool 1, else A, take 0 0, give 2 0, jump E, A: take 1 1, loose, E: end", "6")
	taken(t, "bool 1, else A, loop 1, T: turn E, again T, A: forget, E: end", "7")
	taken(t, "bool 1, else A, take 0 0, tell, loose, take 1 0, loose, A: end", "8")
	taken(t, "miss: forget, q0: forget, q1: q2: end", "2 1 1 3")
}

// Where two faults are at one place the first of the chapter's order is told.
func TestP1601Order(t *testing.T) {
	refused(t, "take 0 0, num 1, end", api.ErrHand, 2)
	refused(t, "take 0 0, else 2, end", api.ErrHand, 1)
	refused(t, "take 0 0, num 1, else 3, end", api.ErrHand, 2)
	refused(t, "take 0 0, move 1 0, end", api.ErrHand, 1)
	refused(t, "take 0 0, jump 0", api.ErrHand, 1)
	refused(t, "take 0 0, turn 2, end", api.ErrHand, 1)
	refused(t, "take 0 0, again 0", api.ErrHand, 1)
	refused(t, "take 0 0, insert 0 0", api.ErrHand, 1)
	refused(t, "bool 1, add, end", api.ErrStack, 1)
	refused(t, "bool 1, lt", api.ErrStack, 1)
	refused(t, "else 0", api.ErrStack, 0)
	refused(t, "quit 0", api.ErrStack, 0)
	refused(t, "loop 1, T: turn E, num 1, end, E: end", api.ErrStack, 3)
	refused(t, "add", api.ErrStack, 0)
	refused(t, "num 1, else 0", api.ErrMix, 1)
	refused(t, "num 1, quit 0", api.ErrMix, 1)
	refused(t, "bool 1, neg", api.ErrMix, 1)
	refused(t, "bool 1, num 1, sub", api.ErrMix, 2)
	refused(t, "num 1, bool 1, sub", api.ErrMix, 2)
	refused(t, "move 1 0", api.ErrOperand, 0)
	refused(t, "miss: drop 0 0, q0: num 1, set 0, end", api.ErrOperand, 0)
	refused(t, "loop 1", api.ErrJump, 0)
	refused(t, "bool 1, else 1", api.ErrJump, 1)
	refused(t, "miss: num 1, loop 1, q0: forget, end", api.ErrJump, 1)
	refused(t, "again 0", api.ErrJump, 0)
	// The first place goes ahead of all.
	refused(t, "forget, jump 1, add, end, end, move 1 0", api.ErrJump, 1)
	refused(t, "move 1 0, end, end", api.ErrOperand, 0)
}
