package typed

import "winnow/api"

// fits tells whether capacities are those of such queues (W4).
func fits(queues []api.Queue, c api.Caps) api.Fault {
	refused := api.Fault{Err: api.ErrCaps}
	if c.Size < 1 || c.Size > api.MaxCap || len(c.Queues) != len(queues) {
		return refused
	}
	residents, ghosts := 0, 0
	for number, most := range c.Queues {
		if most < 1 || most > api.MaxCap {
			return refused
		}
		if queues[number].Ghost {
			ghosts += most
			continue
		}
		if most > c.Size {
			return refused
		}
		residents += most
	}
	if min(c.Size, residents)+ghosts > api.MaxNodes {
		return refused
	}
	return api.Fault{}
}

// settled tells the numbers of vars, tags and loops under capacities that fit; or the first one that may not be.
func (r reading) settled(c api.Caps) (api.Typed, api.Fault) {
	values := r.values(c)
	t := api.Typed{Rounds: make([]int, len(r.rows))}
	for at := range r.rows {
		if err := r.settle(&t, values, at); err != api.OK {
			return api.Typed{}, api.Fault{Err: err, At: at}
		}
	}
	return t, api.Fault{}
}

// settle puts down a row's numbers.
func (r reading) settle(t *api.Typed, values []int, at int) api.Errno {
	switch r.rows[at].Kind {
	case api.NVar:
		kids := r.kids(at)
		v := api.Var{Init: values[kids[0]], Lo: values[kids[1]], Hi: values[kids[2]]}
		if v.Init < v.Lo || v.Init > v.Hi {
			return api.ErrRange
		}
		t.Vars = append(t.Vars, v)
	case api.NTag:
		most := values[at+1]
		if most < 1 || most > api.MaxTag {
			return api.ErrRange
		}
		t.Tags = append(t.Tags, most)
	case api.NRequire:
		if values[at+1] == 0 {
			return api.ErrRequire
		}
	case api.NLoop:
		rounds := values[at+1]
		if rounds < 0 || rounds > api.MaxLoop {
			return api.ErrRange
		}
		t.Rounds[at] = rounds
	}
	return api.OK
}
