package fold

// bead holds a thing in a ring: a list that is closed by a bead without a thing, its clasp. So others come in a bead's place without asking in whose list that is, or how long it is.
type bead[T any] struct {
	of         T
	next, prev *bead[T]
}

// run is beads one behind the other; the zero one has none.
type run[T any] struct {
	first, last *bead[T]
}

// one is a bead alone; of nil it is none.
func one[T any](b *bead[T]) run[T] { return run[T]{b, b} }

// inside are all beads of a ring but its clasp.
func inside[T any](clasp *bead[T]) run[T] {
	if clasp.next == clasp {
		return run[T]{}
	}
	return run[T]{clasp.next, clasp.prev}
}

// put has others stand where the old ones stood, of which some may be among the others; where there are no others, nothing.
func put[T any](old run[T], others ...run[T]) {
	ahead, behind := old.first.prev, old.last.next
	for _, r := range others {
		if r.first != nil {
			tie(ahead, r.first)
			ahead = r.last
		}
	}
	tie(ahead, behind)
}

func tie[T any](ahead, behind *bead[T]) {
	ahead.next, behind.prev = behind, ahead
}
