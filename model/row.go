package model

// ring is the number of the node that bears no key: it closes a row to a ring, so that no key lacks a neighbour.
const ring = 0

// row is keys from a front to a back, each with something of its own. Its nodes are linked by their numbers, so that a key is found, taken out and brought to the front in as few steps however many there are.
type row[T any] struct {
	nodes []node[T]
	spots map[uint64]int // the node of each key
	freed int            // the node that was freed last; it tells, as its ahead, the one before it; ring: there is none
}

type node[T any] struct {
	key           uint64
	held          T
	ahead, behind int // the neighbours towards the front, towards the back
}

func newRow[T any]() row[T] {
	return row[T]{nodes: make([]node[T], 1), spots: map[uint64]int{}}
}

func (r *row[T]) count() int { return len(r.spots) }

func (r *row[T]) has(key uint64) bool {
	_, there := r.spots[key]
	return there
}

// at is the node of a key that is there, last that of the key at the back. They are good till the row changes.
func (r *row[T]) at(key uint64) *node[T] { return &r.nodes[r.spots[key]] }

func (r *row[T]) last() *node[T] { return &r.nodes[r.nodes[ring].ahead] }

// push lays a key that is not there at the front.
func (r *row[T]) push(key uint64, held T) {
	n := r.fresh()
	r.nodes[n].key, r.nodes[n].held = key, held
	r.spots[key] = n
	r.link(n)
}

// pop takes the key at the back out of a row that has keys.
func (r *row[T]) pop() uint64 {
	key := r.last().key
	r.drop(key)
	return key
}

// drop takes a key out, and tells whether it was there.
func (r *row[T]) drop(key uint64) bool {
	n, there := r.spots[key]
	if !there {
		return false
	}
	delete(r.spots, key)
	r.unlink(n)
	r.nodes[n] = node[T]{ahead: r.freed}
	r.freed = n
	return true
}

// raise brings a key that is there to the front, turn the one at the back.
func (r *row[T]) raise(key uint64) { r.toFront(r.spots[key]) }

func (r *row[T]) turn() { r.toFront(r.nodes[ring].ahead) }

func (r *row[T]) toFront(n int) {
	r.unlink(n)
	r.link(n)
}

// fresh is a node that is in no row: one that was freed, ahead of new memory.
func (r *row[T]) fresh() int {
	if r.freed == ring {
		r.nodes = append(r.nodes, node[T]{})
		return len(r.nodes) - 1
	}
	n := r.freed
	r.freed = r.nodes[n].ahead
	return n
}

// link lays a node at the front, unlink has its neighbours be each other's.
func (r *row[T]) link(n int) {
	first := r.nodes[ring].behind
	r.nodes[n].ahead, r.nodes[n].behind = ring, first
	r.nodes[first].ahead = n
	r.nodes[ring].behind = n
}

func (r *row[T]) unlink(n int) {
	ahead, behind := r.nodes[n].ahead, r.nodes[n].behind
	r.nodes[ahead].behind = behind
	r.nodes[behind].ahead = ahead
}

// keysOf tells the keys of rows, row by row, each from its front to its back.
func keysOf[T any](rows ...*row[T]) []uint64 {
	most := 0
	for _, r := range rows {
		most += r.count()
	}
	keys := make([]uint64, 0, most)
	for _, r := range rows {
		for n := r.nodes[ring].behind; n != ring; n = r.nodes[n].behind {
			keys = append(keys, r.nodes[n].key)
		}
	}
	return keys
}
