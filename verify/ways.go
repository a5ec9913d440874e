package verify

import "winnow/api"

// way is a place at which an instruction goes on, and with which standing.
type way struct {
	standing
	at int
}

// ways tells those of an instruction with which nothing is wrong, ahead of those that there are not.
func (w *walker) ways(at int) [2]way {
	i, s := w.p.Code[at], w.behind(at)
	on, none := way{s, at + 1}, way{at: nowhere}
	switch i.Op {
	case api.IEnd, api.IAgain:
		return [2]way{none, none}
	case api.IJump:
		return [2]way{{s, i.A}, none}
	case api.IElse:
		return [2]way{on, {s, i.A}}
	case api.ITurn:
		return [2]way{{s.within(at), at + 1}, {s, i.A}}
	case api.IQuit:
		return [2]way{on, {s.within(w.got[s.turn].turn), i.A}}
	}
	return [2]way{on, none}
}

// within tells the standing with that loop as the innermost one.
func (s standing) within(turn int) standing {
	s.turn = turn
	return s
}

// behind tells the standing behind an instruction, but for the loops.
func (w *walker) behind(at int) standing {
	s, i := w.got[at], w.p.Code[at]
	s.operands = s.operands.behind(i.Op)
	s.hand = w.handBehind(s.hand, i)
	return s
}

func (w *walker) handBehind(h hand, i api.Instr) hand {
	switch i.Op {
	case api.ITake:
		if w.p.Ghost[i.A] {
			return ghost
		}
		return held
	case api.ITell:
		return told
	case api.IGive, api.ILoose:
		return empty
	}
	return h
}
