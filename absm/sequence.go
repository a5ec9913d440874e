package absm

import (
	"slices"

	"winnow/api"
)

// entry is a key and its tags. (None is above MaxTag: a byte holds it.)
type entry struct {
	key  uint64
	tags [api.MaxTags]uint8
}

// sequence is a queue's entries, from its front to its back. There is room ahead of them and behind them, so that one comes and goes at an end without the others being moved.
type sequence struct {
	row   []entry
	first int // where the front one stands in the row
	n     int
}

func (s *sequence) entries() []entry { return s.row[s.first : s.first+s.n] }

// put lets an entry stand where so many are ahead of it. Those on the shorter side make room.
func (s *sequence) put(at int, e entry) {
	if at <= s.n/2 {
		s.openAhead(at)
	} else {
		s.openBehind(at)
	}
	s.n++
	s.entries()[at] = e
}

// openAhead moves the entries ahead of a place by one towards the front.
func (s *sequence) openAhead(at int) {
	if s.first == 0 {
		s.spread()
	}
	ahead := s.entries()[:at]
	s.first--
	copy(s.row[s.first:], ahead)
}

// openBehind moves the entries from a place on by one towards the back.
func (s *sequence) openBehind(at int) {
	if s.first+s.n == len(s.row) {
		s.spread()
	}
	copy(s.row[s.first+at+1:], s.entries()[at:])
}

// pull takes out the entry that so many are ahead of. Those on the shorter side close up.
func (s *sequence) pull(at int) entry {
	all := s.entries()
	e := all[at]
	if at <= (s.n-1)/2 {
		copy(all[1:], all[:at])
		s.first++
	} else {
		copy(all[at:], all[at+1:])
	}
	s.n--
	return e
}

// least is how much room there is at both ends together, where there are no entries.
const least = 8

// spread brings the entries to the middle of a row with as much room as they take: so it is seldom done.
func (s *sequence) spread() {
	row, all := s.row, s.entries()
	if most := 2*s.n + least; len(row) < most {
		row = make([]entry, most)
	}
	s.row, s.first = row, (len(row)-s.n)/2
	copy(s.entries(), all)
}

// find tells how many are ahead of a key that stands there.
func (s *sequence) find(key uint64) int {
	return slices.IndexFunc(s.entries(), func(e entry) bool { return e.key == key })
}

// end tells how many are ahead of the entry at an end.
func (s *sequence) end(end int) int {
	if end == api.Front {
		return 0
	}
	return s.n - 1
}

func (s *sequence) twin() sequence {
	other := *s
	other.row = slices.Clone(s.row)
	return other
}

// told tells the entries, each with so many tags.
func (s *sequence) told(tags int) []api.Entry {
	list := make([]api.Entry, s.n)
	for at, e := range s.entries() {
		list[at] = api.Entry{Key: e.key, Tags: make([]int, tags)}
		for t := range tags {
			list[at].Tags[t] = int(e.tags[t])
		}
	}
	return list
}
