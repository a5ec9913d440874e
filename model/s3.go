package model

// greatest is how far a key's number goes in an S3-FIFO.
const greatest = 3

// s3 is P1907's cache: small (S) and main (M) are cached, each key with its number; gone (G) is not.
type s3 struct {
	size        int
	small, main row[int]
	gone        row[nothing]
}

func newS3(size int) *s3 {
	return &s3{size: size, small: newRow[int](), main: newRow[int](), gone: newRow[nothing]()}
}

// mainMost is how many keys main has at most, and gone.
func mainMost(size int) int { return size - size/10 }

func (c *s3) Access(key uint64) (hit bool, evicted []uint64) {
	for _, r := range []*row[int]{&c.small, &c.main} {
		if r.has(key) {
			n := r.at(key)
			n.held = min(n.held+1, greatest)
			return true, nil
		}
	}
	for range 2 {
		if c.isFull() {
			evicted = c.reclaim(evicted)
		}
	}
	if !c.isFull() {
		evicted = c.admit(key, evicted)
	}
	return false, evicted
}

func (c *s3) isFull() bool { return c.small.count()+c.main.count() == c.size }

func (c *s3) mainIsFull() bool { return c.main.count() == mainMost(c.size) }

// These take the keys that were evicted, and tell them with those that they evict.

func (c *s3) reclaim(evicted []uint64) []uint64 {
	if c.small.count() >= c.size/10 {
		return c.fromSmall(evicted)
	}
	return c.fromMain(evicted)
}

func (c *s3) admit(key uint64, evicted []uint64) []uint64 {
	if !c.gone.has(key) {
		c.small.push(key, 0)
		return evicted
	}
	if c.mainIsFull() {
		evicted = c.fromMain(evicted)
	}
	c.main.push(key, 0)
	c.gone.drop(key)
	return evicted
}

func (c *s3) fromMain(evicted []uint64) []uint64 {
	for c.main.count() > 0 && c.main.last().held > 0 {
		c.main.last().held--
		c.main.turn()
	}
	if c.main.count() > 0 {
		evicted = append(evicted, c.main.pop())
	}
	return evicted
}

func (c *s3) fromSmall(evicted []uint64) []uint64 {
	for c.small.count() > 0 && c.small.last().held > 1 {
		if c.mainIsFull() {
			evicted = c.fromMain(evicted)
		}
		c.main.push(c.small.pop(), 0)
	}
	if c.small.count() == 0 {
		return evicted
	}
	if c.gone.count() == mainMost(c.size) {
		c.gone.pop()
	}
	return append(evicted, spill(&c.small, &c.gone))
}

func (c *s3) Keys() []uint64 { return keysOf(&c.small, &c.main) }
