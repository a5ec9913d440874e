package absm

import "winnow/api"

// run is an Access as it is done. Operands, loops and the hand are as each instruction asks: verify took the program.
type run struct {
	law   *law
	state *state

	key   uint64
	place int // the queue at which x is, or none
	spot  int // how many are ahead of x there, or unsought

	at       int // the place at which it goes on; none, when the event is done
	used     int
	operands []int // a bool is 0 or 1
	loops    []int // how many rounds are left, those of the innermost loop last
	hand     entry
	evicted  []uint64

	vars    [api.MaxVars]int // as they were
	changes []change
	before  *state // the queues as they were, in the place of changes that are too many
}

// unsought is below all spots: so whoever comes or goes ahead of x leaves it as it is.
const unsought = -1

func newRun(l *law, s *state, key uint64) *run {
	return &run{law: l, state: s, key: key, place: s.place(key), spot: unsought, vars: s.vars}
}

// from does the instructions from an event's place on.
func (r *run) from(at int) api.Trap {
	for r.at = at; r.at != none; {
		s := r.law.code[r.at]
		r.at++
		r.used++
		if trap := s.do(r); trap != api.TNone {
			return trap
		}
	}
	return api.TNone
}

func (r *run) push(n int) { r.operands = append(r.operands, n) }

func (r *run) pop() int {
	last := len(r.operands) - 1
	n := r.operands[last]
	r.operands = r.operands[:last]
	return n
}

// close closes the innermost loop, and goes on at a place.
func (r *run) close(to int) {
	r.loops = r.loops[:len(r.loops)-1]
	r.at = to
}

func (r *run) length(q int) int { return r.state.queues[q].n }

func (r *run) total() int {
	n := 0
	for q, ghost := range r.law.ghost {
		if !ghost {
			n += r.length(q)
		}
	}
	return n
}

func (r *run) hasRoom(q int) bool {
	return r.length(q) < r.law.caps.Queues[q] && (r.law.ghost[q] || r.total() < r.law.caps.Size)
}

// seek tells how many are ahead of x at its queue. It is looked for once: a queue may be long.
func (r *run) seek() int {
	if r.spot == unsought {
		r.spot = r.state.queues[r.place].find(r.key)
	}
	return r.spot
}

func (r *run) put(q, at int, e entry) {
	r.state.put(q, at, e)
	r.note(change{kind: came, queue: q, at: at})
	switch {
	case e.key == r.key:
		r.place, r.spot = q, at
	case q == r.place && at <= r.spot:
		r.spot++
	}
}

func (r *run) pull(q, at int) entry {
	e := r.state.pull(q, at)
	r.note(change{kind: went, queue: q, at: at, was: e})
	switch {
	case e.key == r.key:
		r.place = none
	case q == r.place && at < r.spot:
		r.spot--
	}
	return e
}

func (r *run) mark(q, at, tag, n int) {
	e := &r.state.queues[q].entries()[at]
	was := *e
	e.tags[tag] = uint8(n)
	r.note(change{kind: marked, queue: q, at: at, was: was})
}

// few changes are kept whatever the state is.
const few = 64

// note keeps a change that was made. Where more were made than there are entries, the queues as they were take less room than the changes: so no run, however long, keeps more than there was.
func (r *run) note(c change) {
	if r.before != nil {
		return
	}
	r.changes = append(r.changes, c)
	if len(r.changes) > few+len(r.state.where) {
		before := r.state.twin()
		before.undo(r.changes)
		r.before, r.changes = &before, nil
	}
}

// undo brings back the state that was ahead of the run.
func (r *run) undo() {
	if r.before != nil {
		*r.state = *r.before
	}
	r.state.undo(r.changes)
	r.state.vars = r.vars
}
