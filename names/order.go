package names

import (
	"winnow/api"
	"winnow/gram"
)

// ask looks at a row, notes down what it tells, or tells what is wrong with it.
type ask = func(at int) api.Errno

// inOrder asks all of each row, from the first row on, and tells the first fault.
func inOrder(rows []api.Row, asks ...ask) api.Fault {
	for at := range rows {
		for _, each := range asks {
			if err := each(at); err != api.OK {
				return api.Fault{Err: err, At: at}
			}
		}
	}
	return api.Fault{}
}

// declaring asks what a row declares.
func declaring(p *api.Policy, known map[string]meaning) ask {
	counts := map[int]int{}
	return func(at int) api.Errno {
		row := &p.Rows[at]
		kind := declared(row.Kind)
		if kind == nothing {
			return api.OK
		}
		if _, twice := known[row.Name]; twice {
			return api.ErrTwice
		}
		if counts[kind] == most(kind) {
			return api.ErrMany
		}
		row.N = counts[kind]
		counts[kind]++
		// It is kept from here on, though it is known only behind the row's own: naming asks from where on.
		known[row.Name] = meaning{thing{kind, row.N}, gram.End(p.Rows, at)}
		enlist(p, at)
		return api.OK
	}
}

// enlist puts what a row declares behind all others of its kind.
func enlist(p *api.Policy, at int) {
	switch row := p.Rows[at]; row.Kind {
	case api.NQueue, api.NGhostQueue:
		p.Queues = append(p.Queues, api.Queue{Name: row.Name, Ghost: row.Kind == api.NGhostQueue})
	case api.NVar:
		p.Vars = append(p.Vars, row.Name)
	case api.NTag:
		p.Tags = append(p.Tags, row.Name)
	case api.NRule:
		p.Rules = append(p.Rules, at+1)
	}
}

// naming asks what a row's name means there.
func naming(rows []api.Row, known map[string]meaning) ask {
	return func(at int) api.Errno {
		kind := named(rows[at].Kind)
		if kind == nothing {
			return api.OK
		}
		what, there := known[rows[at].Name]
		if !there || at < what.from {
			return api.ErrUnknown
		}
		if what.kind != kind {
			return api.ErrOther
		}
		rows[at].N = what.number
		return api.OK
	}
}

// happening asks whose event a row is. It comes behind naming, which tells the queue.
func happening(rows []api.Row, blocks map[thing]int) ask {
	return func(at int) api.Errno {
		of := event(rows[at])
		if of.kind == nothing {
			return api.OK
		}
		if _, twice := blocks[of]; twice {
			return api.ErrTwice
		}
		blocks[of] = at + 1
		return api.OK
	}
}

// placeEvents tells where the events' blocks are.
func placeEvents(p *api.Policy, blocks map[thing]int) {
	place := func(of thing) int {
		if at, there := blocks[of]; there {
			return at
		}
		return -1
	}
	for number := range p.Queues {
		p.On = append(p.On, place(thing{queue, number}))
	}
	p.Miss = place(thing{miss, 0})
}
