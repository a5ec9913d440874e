package verify

import (
	"slices"

	"winnow/api"
)

// nowhere is the place of an event, or of a way, that there is not.
const nowhere = -1

// eventsOf tells where the events begin: the queues' in their order, then the miss's.
func eventsOf(p api.Program) []int { return append(slices.Clone(p.On), p.Miss) }

// walker goes through a program that may be written, once, from its first place to its last: only IAgain comes to a place from behind, and it brings no standing.
type walker struct {
	p      api.Program
	events []int
	got    []standing // of each place
}

func newWalker(p api.Program) *walker {
	w := &walker{p: p, events: eventsOf(p), got: make([]standing, len(p.Code))}
	for _, at := range w.events {
		if at != nowhere {
			w.got[at] = fresh()
		}
	}
	return w
}

// walk gives each place its standing, or tells the first fault.
func (w *walker) walk() api.Fault {
	var at int
	var err api.Errno
places:
	for at = range w.p.Code {
		if err = w.look(at); err != api.OK {
			goto found
		}
		for _, to := range w.ways(at) {
			switch {
			case to.at == nowhere:
				continue places
			case to.at == len(w.got):
				err = api.ErrEnd
				goto found
			case !w.got[to.at].known:
				w.got[to.at] = to.standing
			case !w.got[to.at].same(to.standing):
				err = api.ErrMix
				goto found
			}
		}
	}
	return api.Fault{}
found:
	return api.Fault{Err: err, At: at}
}

// look tells what is wrong with an instruction where it stands.
func (w *walker) look(at int) api.Errno {
	s, i := w.got[at], w.p.Code[at]
	switch {
	case !s.known:
		return api.ErrDead
	case !w.mayHold(s.hand, i):
		return api.ErrHand
	case !s.fits(i.Op):
		return api.ErrStack
	case !s.suits(i.Op):
		return api.ErrMix
	case !w.mayBring(i):
		return api.ErrOperand
	case !w.mayGo(at):
		return api.ErrJump
	}
	return api.OK
}

// mayHold tells whether the hand is as an instruction asks.
func (w *walker) mayHold(h hand, i api.Instr) bool {
	switch {
	case i.Op >= api.INum && i.Op <= api.ILe, i.Op >= api.ISet && i.Op <= api.IMarkEnd:
		return true
	case i.Op == api.ITell, i.Op == api.IGive && !w.p.Ghost[i.A]:
		return h == held
	case i.Op == api.ILoose, i.Op == api.IGive:
		return h == ghost || h == told
	}
	return h == empty
}

// mayBring tells whether the queues of an instruction are of the kinds that it asks for.
func (w *walker) mayBring(i api.Instr) bool {
	switch i.Op {
	case api.IMove, api.IEvict:
		return !w.p.Ghost[i.A]
	case api.IDrop:
		return w.p.Ghost[i.A]
	case api.IShift:
		return w.p.Ghost[i.A] == w.p.Ghost[i.C]
	case api.ISpill:
		return !w.p.Ghost[i.A] && w.p.Ghost[i.C]
	}
	return true
}

// mayGo tells whether an instruction may go on as it does, with the loops that are open.
func (w *walker) mayGo(at int) bool {
	s, i := w.got[at], w.p.Code[at]
	switch i.Op {
	case api.IJump, api.IElse:
		return w.mayGoTo(at, i.A)
	case api.ILoop:
		return w.isTurn(at + 1)
	case api.ITurn:
		return w.mayGoTo(at, i.A) && at > 0 && w.p.Code[at-1].Op == api.ILoop && !slices.Contains(w.events, at)
	case api.IQuit:
		return w.mayGoTo(at, i.A) && s.turn != noLoop && i.A == w.p.Code[s.turn].A
	case api.IAgain:
		return s.turn != noLoop && i.A == s.turn && s.alike(w.got[s.turn].operands)
	case api.IEnd:
		return s.turn == noLoop
	}
	return true
}

// mayGoTo tells whether a jump may go from a place to another one.
func (w *walker) mayGoTo(at, to int) bool { return to > at && !w.isTurn(to) }

func (w *walker) isTurn(at int) bool {
	return at < len(w.p.Code) && w.p.Code[at].Op == api.ITurn
}
