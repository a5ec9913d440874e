package model

// twoQ is P1906's cache: fresh (A) and main (M) are cached, out (O) is not.
type twoQ struct {
	size             int
	fresh, main, out row[nothing]
}

func newTwoQ(size int) *twoQ {
	return &twoQ{size: size, fresh: newRow[nothing](), main: newRow[nothing](), out: newRow[nothing]()}
}

// outMost is how many keys out has at most.
func outMost(size int) int { return max(1, size/2) }

func (c *twoQ) Access(key uint64) (hit bool, evicted []uint64) {
	if c.fresh.has(key) {
		return true, nil
	}
	if c.main.has(key) {
		c.main.raise(key)
		return true, nil
	}
	// Asked ahead of the reclaim, which may push the key off out's end.
	wasOut := c.out.has(key)
	if c.fresh.count()+c.main.count() == c.size {
		evicted = append(evicted, c.reclaim())
	}
	if wasOut {
		c.out.drop(key)
		c.main.push(key, nothing{})
	} else {
		c.fresh.push(key, nothing{})
	}
	return false, evicted
}

// reclaim evicts a key of a cache that is full.
func (c *twoQ) reclaim() uint64 {
	if c.fresh.count() <= max(1, c.size/4) {
		return c.main.pop()
	}
	key := c.fresh.pop()
	c.out.push(key, nothing{})
	if c.out.count() > outMost(c.size) {
		c.out.pop()
	}
	return key
}

func (c *twoQ) Keys() []uint64 { return keysOf(&c.fresh, &c.main) }
