package lab

// marks are places that bear a mark or not, so kept that setting one and counting those ahead of a place both take few steps, however many places there are: the number at n tells the marks of the last n & -n places up to the n-th.
type marks []int

func newMarks(places int) marks { return make(marks, places+1) }

// add puts a mark at a place (by 1), or takes it away (by -1).
func (m marks) add(place, by int) {
	for n := place + 1; n < len(m); n += n & -n {
		m[n] += by
	}
}

// ahead tells how many places ahead of one bear a mark.
func (m marks) ahead(place int) int {
	count := 0
	for n := place; n > 0; n -= n & -n {
		count += m[n]
	}
	return count
}
