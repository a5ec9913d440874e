package model_test

import (
	"math/rand"
	"slices"
	"testing"

	"winnow/api"
	"winnow/model"
)

// fill puts something in all of a list, and into its spare room.
func fill[T any](list []T, value T) {
	for i := range list[:cap(list)] {
		list[:cap(list)][i] = value
	}
}

// What is told is the caller's own: whatever becomes of it, the cache does not change, nor what was told ahead.
func TestP2(t *testing.T) {
	r := rand.New(rand.NewSource(2))
	for kind, first := range least {
		for i := range 40 {
			size := first + i%9
			b := openBoth(t, kind, size)
			var told [][]uint64
			for _, key := range asked(r, 200, 2*size+2, i%5) {
				_, gone := b.access(t, key)
				b.wantKeys(t)
				keys := b.Keys()
				told = append(told[max(0, len(told)-6):], gone, keys, b.Keys())
				for n, list := range told {
					fill(list, uint64(1000+n))
				}
				for n, list := range told {
					if slices.ContainsFunc(list[:cap(list)], func(k uint64) bool { return k != uint64(1000+n) }) {
						t.Fatalf("kind %d, size %d: two lists share memory", kind, size)
					}
				}
			}
			b.wantKeys(t)
		}
	}
}

func TestP2Caps(t *testing.T) {
	for kind := range least {
		a, _ := model.Caps(kind, 30)
		b, _ := model.Caps(kind, 30)
		want := slices.Clone(a.Queues)
		fill(a.Queues, -1)
		c, _ := model.Caps(kind, 30)
		if !slices.Equal(b.Queues, want) || !slices.Equal(c.Queues, want) {
			t.Errorf("kind %d: %v, %v; want %v", kind, b, c, want)
		}
	}
}

// The same calls answer the same, of each cache that New answers: no two see one another (P3, P7).
func TestP7(t *testing.T) {
	r := rand.New(rand.NewSource(7))
	for i := range 60 {
		var caches []both
		for kind, first := range least {
			for range 2 {
				caches = append(caches, openBoth(t, kind, first+i%7))
			}
		}
		for _, key := range asked(r, 200, 20, i%5) {
			for n, b := range caches {
				// One of the two of a kind is asked for other keys, too.
				b.access(t, key+uint64(n%2))
			}
		}
		for _, b := range caches {
			b.wantKeys(t)
		}
	}
}

// To ask for the keys changes nothing.
func TestKeysChangesNothing(t *testing.T) {
	r := rand.New(rand.NewSource(1902))
	for kind, first := range least {
		a, b := open(t, kind, first+3), open(t, kind, first+3)
		for _, key := range asked(r, 1000, 3*first+6, 2) {
			for range r.Intn(3) {
				a.Keys()
			}
			hit, gone := a.Access(key)
			if wantHit, want := b.Access(key); hit != wantHit || !slices.Equal(gone, want) {
				t.Fatalf("kind %d, %d: %s; want %s", kind, key, tell(hit, gone), tell(wantHit, want))
			}
		}
	}
}

// Keys are any numbers.
func TestAnyKeys(t *testing.T) {
	r := rand.New(rand.NewSource(64))
	for kind, first := range least {
		size := first + 4
		some := []uint64{0, 1, 1 << 32, 1<<32 + 1, 1 << 63, 1<<63 - 1, ^uint64(0), ^uint64(1)}
		for len(some) < 2*size {
			some = append(some, r.Uint64())
		}
		a, b := openBoth(t, kind, size), open(t, kind, size)
		for _, n := range asked(r, 2000, len(some), 2) {
			n %= uint64(len(some))
			hit, gone := a.access(t, some[n])
			a.wantKeys(t)
			// What keys are called does not count.
			wantHit, want := b.Access(n)
			for i, key := range want {
				want[i] = some[key]
			}
			if hit != wantHit || !slices.Equal(gone, want) {
				t.Fatalf("kind %d, %d: %s; want %s", kind, some[n], tell(hit, gone), tell(wantHit, want))
			}
		}
	}
	if len(least) != api.LCount {
		t.Error("a kind is missing")
	}
}
