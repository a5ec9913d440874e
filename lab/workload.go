package lab

import (
	"sort"

	"winnow/api"
)

// isWorkload tells whether there may be so many keys, of so many unlike ones.
func isWorkload(n, keys int) bool {
	return n >= 0 && n <= api.MaxKeys && keys >= 1 && keys <= api.MaxKeys
}

// random makes the random numbers of a seed.
type random struct {
	s uint64
}

func (r *random) next() uint64 {
	r.s += 11400714819323198485
	z := r.s
	z = (z ^ z>>30) * 13787848793156543929
	z = (z ^ z>>27) * 10723151780598845931
	return z ^ z>>31
}

// share is the next random number as one from 0 on, below 1. None of its bits is lost: a float has room for 53.
func (r *random) share() float64 {
	return float64(r.next()>>11) / 9007199254740992
}

// sums are those of 1, 1/2, 1/3 and so on: each has one more of these.
type sums []float64

func sumsOf(keys int) sums {
	list := make(sums, keys)
	sum := 0.0
	for at := range keys {
		// Made a float at each step: what is rounded is not left to the machine.
		sum = float64(sum + float64(1/float64(at+1)))
		list[at] = sum
	}
	return list
}

// key is the first one whose sum is above that share of the last sum. The sums rise: so halving finds it.
func (s sums) key(share float64) uint64 {
	last := len(s) - 1
	u := float64(share * s[last])
	return uint64(sort.Search(last, func(at int) bool { return u < s[at] }))
}
