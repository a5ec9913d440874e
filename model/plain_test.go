package model_test

import (
	"slices"
	"strconv"

	"winnow/api"
)

// plain is a cache as chapter 19 tells it, over lists of keys that are gone through from their front on. Its rows are named there: Q; A, M, O; S, M, G; T1, T2, B1, B2.
type plain struct {
	kind, c, p int
	rows       [4][]uint64
	number     map[uint64]int // bits, or numbers: of the cached keys that have one above 0
	gone       []uint64       // what the Access that is being done has evicted
	met        map[string]int // how often something was done: what tests want to have seen
}

func newPlain(kind, size int) *plain {
	return &plain{kind: kind, c: size, number: map[uint64]int{}, met: map[string]int{}}
}

func (x *plain) note(what string) { x.met[strconv.Itoa(x.kind)+" "+what]++ }

func (x *plain) len(row int) int { return len(x.rows[row]) }

func (x *plain) in(row int, key uint64) bool { return slices.Contains(x.rows[row], key) }

func (x *plain) last(row int) uint64 { return x.rows[row][x.len(row)-1] }

func (x *plain) out(row int, key uint64) {
	x.rows[row] = slices.DeleteFunc(x.rows[row], func(k uint64) bool { return k == key })
}

func (x *plain) front(row int, key uint64) { x.rows[row] = append([]uint64{key}, x.rows[row]...) }

// evict has the last one of a row be evicted, and stand at another's front (-1: in none).
func (x *plain) evict(row, to int) {
	key := x.last(row)
	x.out(row, key)
	delete(x.number, key)
	x.gone = append(x.gone, key)
	if to >= 0 {
		x.front(to, key)
	}
}

// keys are the cached ones.
func (x *plain) keys() []uint64 {
	if x.kind < api.LTwoQ {
		return slices.Clone(x.rows[0])
	}
	return slices.Concat(x.rows[0], x.rows[1])
}

func (x *plain) access(key uint64) (hit bool, evicted []uint64) {
	x.gone = nil
	if slices.Contains(x.keys(), key) {
		x.hit(key)
		return true, nil
	}
	[]func(uint64){x.missFifo, x.missFifo, x.missClock, x.missTwoQ, x.missS3, x.missArc}[x.kind](key)
	if len(x.gone) > 1 {
		x.note("several evicted")
	}
	return false, x.gone
}

func (x *plain) hit(key uint64) {
	switch x.kind {
	case api.LLru:
		x.out(0, key)
		x.front(0, key)
	case api.LClock:
		x.number[key] = 1
	case api.LTwoQ:
		if x.in(1, key) {
			x.out(1, key)
			x.front(1, key)
		}
	case api.LS3:
		if x.number[key] < 3 {
			x.number[key]++
		} else {
			x.note("a hit at 3")
		}
	case api.LArc:
		x.out(0, key)
		x.out(1, key)
		x.front(1, key)
	}
}

func (x *plain) missFifo(key uint64) {
	if x.len(0) == x.c {
		x.evict(0, -1)
	}
	x.front(0, key)
}

func (x *plain) missClock(key uint64) {
	if x.len(0) == x.c {
		turns := 0
		for ; x.number[x.last(0)] == 1; turns++ {
			k := x.last(0)
			x.number[k] = 0
			x.out(0, k)
			x.front(0, k)
		}
		if turns == x.c {
			x.note("all round")
		}
		x.evict(0, -1)
	}
	x.front(0, key)
}

func (x *plain) missTwoQ(key uint64) {
	stood := x.in(2, key)
	if x.len(0)+x.len(1) == x.c {
		if x.len(0) > max(1, x.c/4) {
			x.evict(0, 2)
			if x.len(2) > max(1, x.c/2) {
				x.rows[2] = x.rows[2][:x.len(2)-1]
				x.note("out of O")
			}
		} else {
			x.note("out of M")
			x.evict(1, -1)
		}
	}
	if !stood {
		x.front(0, key)
		return
	}
	if !x.in(2, key) {
		x.note("pushed off O's end")
	}
	x.out(2, key)
	x.front(1, key)
}

func (x *plain) missS3(key uint64) {
	stood := x.in(2, key)
	if x.len(0)+x.len(1) < x.c && x.c > 10 && stood && x.len(1) == x.c-x.c/10 {
		x.note("M full, and fewer than c")
	}
	for range 2 {
		if x.len(0)+x.len(1) == x.c {
			if x.len(0) >= x.c/10 {
				x.fromS()
			} else {
				x.fromM()
			}
		}
	}
	if x.len(0)+x.len(1) >= x.c {
		return
	}
	x.number[key] = 0
	if !x.in(2, key) {
		if stood {
			x.note("pushed off G's end")
		}
		x.front(0, key)
		return
	}
	x.note("out of G")
	if x.len(1) == x.c-x.c/10 {
		x.fromM()
	}
	x.out(2, key)
	x.front(1, key)
}

func (x *plain) fromM() {
	for turns := 0; x.len(1) > 0 && x.number[x.last(1)] > 0; turns++ {
		if turns == x.len(1) {
			x.note("round M more than once")
		}
		k := x.last(1)
		x.number[k]--
		x.out(1, k)
		x.front(1, k)
	}
	if x.len(1) > 0 {
		x.evict(1, -1)
	}
}

func (x *plain) fromS() {
	for x.len(0) > 0 && x.number[x.last(0)] > 1 {
		if x.len(1) == x.c-x.c/10 {
			x.note("M full, from S")
			x.fromM()
		}
		k := x.last(0)
		x.number[k] = 0
		x.out(0, k)
		x.front(1, k)
	}
	if x.len(0) == 0 {
		x.note("S empty")
		return
	}
	if x.len(2) == x.c-x.c/10 {
		x.rows[2] = x.rows[2][:x.len(2)-1]
		x.note("G full")
	}
	x.evict(0, 2)
}

func (x *plain) missArc(key uint64) {
	t1, b1, b2 := x.len(0), x.len(2), x.len(3)
	all := t1 + x.len(1) + b1 + b2
	switch {
	case x.in(2, key):
		if b2/b1 > 1 {
			x.note("p up by more")
		}
		if x.p += max(1, b2/b1); x.p > x.c {
			x.note("p above c")
			x.p = x.c
		}
		x.replace(key)
		x.out(2, key)
		x.front(1, key)
		return
	case x.in(3, key):
		if b1/b2 > 1 {
			x.note("p down by more")
		}
		if x.p -= max(1, b1/b2); x.p < 0 {
			x.note("p below 0")
			x.p = 0
		}
		x.replace(key)
		x.out(3, key)
		x.front(1, key)
		return
	case t1+b1 == x.c && t1 < x.c:
		x.note("out of B1")
		x.rows[2] = x.rows[2][:b1-1]
		x.replace(key)
	case t1+b1 == x.c:
		x.note("out of T1")
		x.evict(0, -1)
	case all >= x.c:
		if all == 2*x.c {
			x.note("out of B2")
			x.rows[3] = x.rows[3][:b2-1]
		}
		x.replace(key)
	}
	x.front(0, key)
}

func (x *plain) replace(key uint64) {
	n := x.len(0)
	if n > 0 && n == x.p && x.in(3, key) {
		x.note("T1 is p, and the key in B2")
	}
	if n > 0 && n == x.p && !x.in(3, key) {
		x.note("T1 is p, and the key not in B2")
	}
	if n == 0 {
		x.note("T1 empty")
	}
	if n > 0 && (n > x.p || n == x.p && x.in(3, key)) {
		x.evict(0, 2)
	} else {
		x.evict(1, 3)
	}
}
