package model

// nothing is what keys bear in a row in which they are keys alone.
type nothing struct{}

// fifo is P1903's cache.
type fifo struct {
	size int
	q    row[nothing]
}

func newFifo(size int) *fifo { return &fifo{size: size, q: newRow[nothing]()} }

func (c *fifo) Access(key uint64) (hit bool, evicted []uint64) {
	if c.q.has(key) {
		return true, nil
	}
	if c.q.count() == c.size {
		evicted = append(evicted, c.q.pop())
	}
	c.q.push(key, nothing{})
	return false, evicted
}

func (c *fifo) Keys() []uint64 { return keysOf(&c.q) }

// lru is P1904's: a fifo but for its hits.
type lru struct {
	fifo
}

func newLru(size int) *lru { return &lru{fifo: *newFifo(size)} }

func (c *lru) Access(key uint64) (hit bool, evicted []uint64) {
	hit, evicted = c.fifo.Access(key)
	if hit {
		c.q.raise(key)
	}
	return hit, evicted
}

// clock is P1905's: each key bears its bit.
type clock struct {
	size int
	q    row[bool]
}

func newClock(size int) *clock { return &clock{size: size, q: newRow[bool]()} }

func (c *clock) Access(key uint64) (hit bool, evicted []uint64) {
	if c.q.has(key) {
		c.q.at(key).held = true
		return true, nil
	}
	if c.q.count() == c.size {
		for c.q.last().held {
			c.q.last().held = false
			c.q.turn()
		}
		evicted = append(evicted, c.q.pop())
	}
	c.q.push(key, false)
	return false, evicted
}

func (c *clock) Keys() []uint64 { return keysOf(&c.q) }
