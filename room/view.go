package room

import (
	"slices"

	"winnow/api"
)

// A view's spans lie in one row: the queues' lengths, total, the vars.
const (
	total    = api.MaxQueues
	firstVar = total + 1
	allSpans = firstVar + api.MaxVars
)

// The places at which x may be are the queues, and behind them this one.
const (
	nowhere   = api.MaxQueues
	allPlaces = nowhere + 1
)

// view is what may be so. The zero one is dead: nothing can be.
type view struct {
	alive  bool
	spans  [allSpans]api.Span
	places [allPlaces]bool
}

// join is a view of all that is in one of both.
func (v view) join(w view) view {
	switch {
	case !v.alive:
		return w
	case !w.alive:
		return v
	}
	for i := range v.spans {
		v.spans[i] = Join(v.spans[i], w.spans[i])
	}
	for i := range v.places {
		v.places[i] = v.places[i] || w.places[i]
	}
	return v
}

// alone is the queue at which x is, if it can be nowhere else.
func (v view) alone() (queue int, is bool) {
	count := 0
	for place, may := range v.places {
		if may {
			queue = place
			count++
		}
	}
	return queue, count == 1 && queue != nowhere
}

// at is the view with x at one place.
func (v view) at(place int) view {
	v.places = [allPlaces]bool{}
	v.places[place] = true
	return v
}

// mayGo is the view in which x may have gone with an entry, from the one place to the other.
func (v view) mayGo(from, to int) view {
	v.places[to] = v.places[to] || v.places[from]
	return v
}

// closed is the view in which x may have gone so again and again.
func (v view) closed(goes [allPlaces][allPlaces]bool) view {
again:
	for {
		for from, may := range v.places {
			for to, goes := range goes[from] {
				if may && goes && !v.places[to] {
					v = v.mayGo(from, to)
					continue again
				}
			}
		}
		return v
	}
}

// isNothing tells whether no state can be so.
func (v view) isNothing() bool {
	return slices.ContainsFunc(v.spans[:], isNone) || !slices.Contains(v.places[:], true)
}

// facts tells a view of so many queues and vars.
func (v view) facts(queues, vars int) api.Facts {
	return api.Facts{
		Reached: true,
		Lens:    slices.Clone(v.spans[:queues]),
		Total:   v.spans[total],
		Vars:    slices.Clone(v.spans[firstVar : firstVar+vars]),
		Nowhere: v.places[nowhere],
		At:      slices.Clone(v.places[:queues]),
	}
}
