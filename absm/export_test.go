package absm

import "winnow/api"

// Walk does an Access; ahead of each instruction it tells its place, and how many operands and loops there are.
func (m *Machine) Walk(key uint64, look func(at, operands, loops int)) api.Answer {
	law := m.law
	watched := *law
	watched.code = make([]step, len(law.code))
	for at, s := range law.code {
		watched.code[at] = watch{s, at, look}
	}
	m.law = &watched
	defer func() { m.law = law }()
	return m.Access(key)
}

type watch struct {
	step
	at   int
	look func(at, operands, loops int)
}

func (w watch) do(r *run) api.Trap {
	w.look(w.at, len(r.operands), len(r.loops))
	return w.step.do(r)
}
