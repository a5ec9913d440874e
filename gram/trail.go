package gram

import "winnow/api"

// above is a row of whose kids some are yet to come.
type above struct {
	kind, kids int
	seen       int // how many of its kids stood already
	kid        int // the kind of the last one of these
	levels     int // how many are open within it
}

// trail is the way from row 0 down to a row, without that one. It takes the place of a recursion, since a tree may be as deep as it has rows.
type trail []above

// last is the row right above; the zero one, if there is none.
func (t trail) last() above {
	if len(t) == 0 {
		return above{}
	}
	return t[len(t)-1]
}

// past goes past a row, within which so many levels are open: to the way to the row behind it.
func (t trail) past(row api.Row, levels int) trail {
	if len(t) > 0 {
		over := &t[len(t)-1]
		over.seen++
		over.kid = row.Kind
	}
	t = append(t, above{kind: row.Kind, kids: row.Kids, levels: levels})
	for len(t) > 0 && t.last().seen >= t.last().kids {
		t = t[:len(t)-1]
	}
	return t
}
