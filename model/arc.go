package model

// arc is P1908's cache: t1 and t2 are cached, b1 and b2 are not.
type arc struct {
	size, p        int
	t1, t2, b1, b2 row[nothing]
}

func newArc(size int) *arc {
	return &arc{size: size, t1: newRow[nothing](), t2: newRow[nothing](), b1: newRow[nothing](), b2: newRow[nothing]()}
}

func (c *arc) Access(key uint64) (hit bool, evicted []uint64) {
	if c.t1.drop(key) || c.t2.drop(key) {
		c.t2.push(key, nothing{})
		return true, nil
	}
	switch {
	case c.b1.has(key):
		c.p = min(c.p+max(1, c.b2.count()/c.b1.count()), c.size)
		evicted = append(evicted, c.replace(false))
		c.b1.drop(key)
	case c.b2.has(key):
		c.p = max(c.p-max(1, c.b1.count()/c.b2.count()), 0)
		evicted = append(evicted, c.replace(true))
		c.b2.drop(key)
	default:
		evicted = c.makeRoom()
		c.t1.push(key, nothing{})
		return false, evicted
	}
	c.t2.push(key, nothing{})
	return false, evicted
}

// makeRoom is what is done ahead of a key that stands in no row.
func (c *arc) makeRoom() []uint64 {
	first := c.t1.count() + c.b1.count()
	all := first + c.t2.count() + c.b2.count()
	switch {
	case c.t1.count() == c.size:
		return []uint64{c.t1.pop()}
	case first == c.size:
		c.b1.pop()
	case all < c.size:
		return nil
	case all == 2*c.size:
		c.b2.pop()
	}
	return []uint64{c.replace(false)}
}

// replace evicts a key of a cache that is full, and tells it; inB2: whether the key that is asked for stands in b2.
func (c *arc) replace(inB2 bool) uint64 {
	n := c.t1.count()
	if n > 0 && (n > c.p || n == c.p && inB2) {
		return spill(&c.t1, &c.b1)
	}
	return spill(&c.t2, &c.b2)
}

// spill has the key at the back of one row go to the front of another, and tells it.
func spill[T any](from *row[T], to *row[nothing]) uint64 {
	key := from.pop()
	to.push(key, nothing{})
	return key
}

func (c *arc) Keys() []uint64 { return keysOf(&c.t1, &c.t2) }
