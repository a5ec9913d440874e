package absm

import "winnow/api"

// item is an entry that is looked for: at a queue, with so many ahead of it.
type item interface {
	seek(r *run) (q, at int, trap api.Trap)
}

type itemX struct{}

func (itemX) seek(r *run) (q, at int, trap api.Trap) {
	if r.place == none {
		return 0, 0, api.TWhere
	}
	return r.place, r.seek(), api.TNone
}

// endOf is an end of a queue: what stands there, and where one may come to stand.
type endOf struct{ q, end int }

func (e endOf) seek(r *run) (q, at int, trap api.Trap) {
	if r.length(e.q) == 0 {
		return 0, 0, api.TEmpty
	}
	return e.q, r.state.queues[e.q].end(e.end), api.TNone
}

// accept lets an entry that is at no queue stand at that end.
func (e endOf) accept(r *run, x entry) api.Trap {
	if !r.hasRoom(e.q) {
		return api.TFull
	}
	at := 0
	if e.end == api.Back {
		at = r.length(e.q)
	}
	r.put(e.q, at, x)
	return api.TNone
}

type tagOf struct {
	item item
	tag  int
}

func (s tagOf) do(r *run) api.Trap {
	q, at, trap := s.item.seek(r)
	if trap == api.TNone {
		r.push(int(r.state.queues[q].entries()[at].tags[s.tag]))
	}
	return trap
}

type mark struct {
	item      item
	tag, most int
}

func (s mark) do(r *run) api.Trap {
	n := r.pop()
	q, at, trap := s.item.seek(r)
	if trap == api.TNone {
		r.mark(q, at, s.tag, min(max(n, 0), s.most))
	}
	return trap
}

type set struct {
	v     int
	among api.Var
}

func (s set) do(r *run) api.Trap {
	r.state.vars[s.v] = min(max(r.pop(), s.among.Lo), s.among.Hi)
	return api.TNone
}

// insert need not ask whether x is in the hand: verify lets it stand only where that is empty.
type insert struct{ to endOf }

func (s insert) do(r *run) api.Trap {
	if r.place != none {
		return api.TWhere
	}
	return s.to.accept(r, entry{key: r.key})
}

type move struct{ to endOf }

func (s move) do(r *run) api.Trap {
	if r.place == none {
		return api.TWhere
	}
	return s.to.accept(r, r.pull(r.place, r.seek()))
}

type forget struct{}

func (forget) do(r *run) api.Trap {
	if r.place == none || !r.law.ghost[r.place] {
		return api.TWhere
	}
	r.pull(r.place, r.seek())
	return api.TNone
}

type take struct{ from endOf }

func (s take) do(r *run) api.Trap {
	q, at, trap := s.from.seek(r)
	if trap == api.TNone {
		r.hand = r.pull(q, at)
	}
	return trap
}

type give struct{ to endOf }

func (s give) do(r *run) api.Trap { return s.to.accept(r, r.hand) }

type tell struct{}

func (tell) do(r *run) api.Trap {
	r.evicted = append(r.evicted, r.hand.key)
	return api.TNone
}

// loose has nothing to do: what is in the hand is at no queue any more.
type loose struct{}

func (loose) do(*run) api.Trap { return api.TNone }

// inTurn is one instruction that does what several do, one behind the other.
type inTurn []step

func (s inTurn) do(r *run) api.Trap {
	for _, part := range s {
		if trap := part.do(r); trap != api.TNone {
			return trap
		}
	}
	return api.TNone
}
