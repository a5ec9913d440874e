package rule

import "winnow/api"

// branch is a row ahead of all of its own, cut out of an event's rows.
type branch struct {
	rows  []api.Act
	sizes []int // of each row, how many it is with all of its own
}

// eventBranch is that of all rows of an event; is: they hang together as Kids says, none is left.
func eventBranch(rows []api.Act) (b branch, is bool) {
	sizes := make([]int, len(rows))
	for at := len(rows) - 1; at >= 0; at-- {
		size, is := sizeOf(rows[at], sizes[at+1:])
		if !is {
			return branch{}, false
		}
		sizes[at] = size
	}
	return branch{rows, sizes}, len(rows) > 0 && sizes[0] == len(rows)
}

// sizeOf is a row's size by those of the rows behind it. Its kids are counted as they are found: there may be fewer than it says.
func sizeOf(a api.Act, behind []int) (size int, is bool) {
	if a.Kids < 0 {
		return 0, false
	}
	size = 1
	for range a.Kids {
		if size > len(behind) {
			return 0, false
		}
		size += behind[size-1]
	}
	return size, true
}

// kids are its kids' branches. Each ends where its own rows do, its room too: none reaches into the next one.
func (b branch) kids() []branch {
	list := make([]branch, 0, b.rows[0].Kids)
	for at := 1; at < len(b.rows); {
		behind := at + b.sizes[at]
		list = append(list, branch{b.rows[at:behind:behind], b.sizes[at:behind:behind]})
		at = behind
	}
	return list
}
