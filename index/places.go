package index

// pageSize: memory comes for so many places at once, as keys come to lie there, so that an index of many places and few keys is a small one.
const pageSize = 32

// slot is the memory of a place.
type slot[V any] struct {
	key   uint64
	held  V
	taken bool
}

type page[V any] [pageSize]slot[V]

// after is the place behind one; behind the last one comes place 0.
func (x *Index[V]) after(place int) int { return (place + 1) & (x.Slots() - 1) }

// steps tells how far it is from one place on to another.
func (x *Index[V]) steps(from, to int) int { return (to - from) & (x.Slots() - 1) }

// at tells what lies at a place; nil: it is empty.
func (x *Index[V]) at(place int) *slot[V] {
	n := place / pageSize
	if n >= len(x.pages) || x.pages[n] == nil {
		return nil
	}
	if s := &x.pages[n][place%pageSize]; s.taken {
		return s
	}
	return nil
}

// memory is that of a place, empty or not.
func (x *Index[V]) memory(place int) *slot[V] {
	if x.pages == nil {
		x.pages = make([]*page[V], (x.Slots()+pageSize-1)/pageSize)
	}
	n := place / pageSize
	if x.pages[n] == nil {
		x.pages[n] = new(page[V])
	}
	return &x.pages[n][place%pageSize]
}

// find tells the place of a key and what lies there; or the empty place at which it would lie, and nil.
func (x *Index[V]) find(key uint64) (int, *slot[V]) {
	place := x.Home(key)
	s := x.at(place)
	for s != nil && s.key != key {
		place = x.after(place)
		s = x.at(place)
	}
	return place, s
}

// vacate empties a place at which a key lies, and mends the places behind it (P605): a key that was kept from its home by what is gone would be searched for in vain.
func (x *Index[V]) vacate(gap int) {
	hole := x.memory(gap)
	place := x.after(gap)
	for s := x.at(place); s != nil; s = x.at(place) {
		home := x.Home(s.key)
		if home == gap || x.steps(gap, home) > x.steps(gap, place) {
			*hole = *s
			hole, gap = s, place
		}
		place = x.after(place)
	}
	*hole = slot[V]{}
}

// taken tells all keys and what lies under them, by their places.
func (x *Index[V]) taken() []slot[V] {
	all := make([]slot[V], 0, x.count)
	for _, p := range x.pages {
		if p == nil {
			continue
		}
		for i := range p {
			if p[i].taken {
				all = append(all, p[i])
			}
		}
	}
	return all
}
