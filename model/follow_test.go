package model_test

import (
	"math/rand"
	"slices"
	"testing"

	"winnow/api"
	"winnow/model"
)

// both are a cache and the plain one that it has to be like.
type both struct {
	model.Cache
	like *plain
}

func openBoth(t *testing.T, kind, size int) both {
	t.Helper()
	return both{open(t, kind, size), newPlain(kind, size)}
}

// access wants the two to answer the same.
func (b both) access(t *testing.T, key uint64) (bool, []uint64) {
	t.Helper()
	hit, gone := b.Access(key)
	if wantHit, want := b.like.access(key); hit != wantHit || !slices.Equal(gone, want) {
		t.Fatalf("kind %d, size %d, %d: %s; want %s, rows then %v", b.like.kind, b.like.c, key, tell(hit, gone), tell(wantHit, want), b.like.rows)
	}
	return hit, gone
}

func (b both) wantKeys(t *testing.T) {
	t.Helper()
	if got, want := b.Keys(), b.like.keys(); !slices.Equal(got, want) {
		t.Fatalf("kind %d, size %d: Keys %v; want %v", b.like.kind, b.like.c, got, want)
	}
}

// eachRow goes over all rows of so many keys, but for what the keys are called: a key is one that stands ahead of it, or the next new one.
func eachRow(n int, do func([]uint64)) {
	list := make([]uint64, n)
	var put func(at int, fresh uint64)
	put = func(at int, fresh uint64) {
		if at == n {
			do(list)
			return
		}
		for key := range fresh + 1 {
			list[at] = key
			put(at+1, max(fresh, key+1))
		}
	}
	put(0, 0)
}

// All short rows of keys, over small caches.
func TestShortRows(t *testing.T) {
	for kind, first := range least {
		if kind == api.LS3 {
			continue
		}
		for size := first; size < first+3; size++ {
			eachRow(9, func(keys []uint64) {
				b := openBoth(t, kind, size)
				for _, key := range keys {
					b.access(t, key)
				}
				b.wantKeys(t)
			})
		}
	}
}

// An S3-FIFO is no small one: all short rows of some keys behind a row that fills it.
func TestShortRowsOfS3(t *testing.T) {
	const n = 5
	for _, warm := range []string{"0-9", "0-18", "0-9 0-8 0-8 10", "0-9 0-9 0-9 10", "0-9 0-8 0-8 10 9", "0-9 1-9 1-9 10 1-9 2-8"} {
		for _, few := range []string{"0 9 10 11 20", "1 2 10 19 30", "0 8 9 10 40"} {
			keys := row(t, few)
			for code := range 5 * 5 * 5 * 5 * 5 {
				b := openBoth(t, api.LS3, 10)
				for _, key := range row(t, warm) {
					b.access(t, key)
				}
				for range n {
					b.access(t, keys[code%5])
					code /= 5
				}
				b.wantKeys(t)
			}
		}
	}
}

// asked are keys by chance, some far more often than others, with scans and with repetitions between; the greater heat, the more of these.
func asked(r *rand.Rand, n, most, heat int) []uint64 {
	var list []uint64
	for len(list) < n {
		switch r.Intn(3 + heat) {
		case 0:
			first := r.Intn(most)
			for i := range r.Intn(most) {
				list = append(list, uint64(first+i))
			}
		case 1, 2:
			list = append(list, uint64(r.Intn(1+r.Intn(most))))
		default:
			first, times := r.Intn(most), 1+r.Intn(3)
			for range times {
				for i := range 1 + r.Intn(most/3+1) {
					list = append(list, uint64(first+i))
				}
			}
		}
	}
	return list[:n]
}

// back asks for a key that was evicted not long ago, now and then, in the place of another.
func back(r *rand.Rand, gone []uint64, key uint64, heat int) uint64 {
	if len(gone) == 0 || r.Intn(6) >= heat {
		return key
	}
	return gone[len(gone)-1-r.Intn(min(len(gone), 1+r.Intn(40)))]
}

// wanted is what has to be met by rows of keys by chance.
var wanted = []string{
	"2 all round",
	"3 out of O", "3 out of M", "3 pushed off O's end",
	"4 a hit at 3", "4 several evicted", "4 M full, and fewer than c", "4 pushed off G's end", "4 out of G", "4 round M more than once", "4 M full, from S", "4 S empty", "4 G full",
	"5 p up by more", "5 p above c", "5 p down by more", "5 p below 0", "5 out of B1", "5 out of T1", "5 out of B2", "5 T1 is p, and the key in B2", "5 T1 is p, and the key not in B2", "5 T1 empty",
}

// Long rows of keys by chance.
func TestLongRows(t *testing.T) {
	r := rand.New(rand.NewSource(1903))
	met := map[string]int{}
	for kind, first := range least {
		for i := range 150 {
			size := first + i%12 + i/100*r.Intn(40)
			b := openBoth(t, kind, size)
			b.like.met = met
			var all []uint64
			for n, key := range asked(r, 800, size+1+r.Intn(2*size+3), i%5) {
				_, gone := b.access(t, back(r, all, key, i%5))
				all = append(all, gone...)
				if n%10 == 0 {
					b.wantKeys(t)
				}
			}
			b.wantKeys(t)
		}
	}
	for _, what := range wanted {
		if met[what] < 20 {
			t.Errorf("%s: %d times", what, met[what])
		}
	}
	if met["0 several evicted"]+met["1 several evicted"]+met["2 several evicted"]+met["3 several evicted"]+met["5 several evicted"] > 0 {
		t.Errorf("%v", met)
	}
}

// wantP1911 is what holds of an Access of any kind, ahead of which those keys were cached; inG: the key may find M full.
func wantP1911(t *testing.T, size int, ahead, now []uint64, key uint64, hit bool, gone []uint64, inG bool) {
	t.Helper()
	was := slices.Contains(ahead, key)
	if hit != was || hit && (len(gone) > 0 || !slices.Equal(sorted(ahead), sorted(now))) {
		t.Fatalf("%d of %v: %s, then %v", key, ahead, tell(hit, gone), now)
	}
	if !slices.Contains(now, key) || len(now) > size || !apart(now) || !apart(gone) {
		t.Fatalf("%d of %v: %s, then %v", key, ahead, tell(hit, gone), now)
	}
	for _, k := range gone {
		if !slices.Contains(ahead, k) || slices.Contains(now, k) {
			t.Fatalf("%d of %v: %s, then %v", key, ahead, tell(hit, gone), now)
		}
	}
	for _, k := range ahead {
		if !slices.Contains(now, k) && !slices.Contains(gone, k) {
			t.Fatalf("%d of %v: %s, then %v: %d is lost", key, ahead, tell(hit, gone), now, k)
		}
	}
	if len(ahead) < size && len(gone) > 0 && !inG {
		t.Fatalf("%d of %v, fewer than %d: %s", key, ahead, size, tell(hit, gone))
	}
}

func sorted(list []uint64) []uint64 { return slices.Sorted(slices.Values(list)) }

// apart: no key stands twice.
func apart(list []uint64) bool {
	list = sorted(list)
	return len(slices.Compact(list)) == len(list)
}

func TestP1911(t *testing.T) {
	r := rand.New(rand.NewSource(1911))
	for kind, first := range least {
		early := 0
		for i := range 60 {
			size := first + i%15
			b := openBoth(t, kind, size)
			var all []uint64
			for _, key := range asked(r, 500, size+1+r.Intn(2*size+3), i%5) {
				key = back(r, all, key, i%5)
				ahead, inG := b.Keys(), kind == api.LS3 && b.like.in(2, key)
				hit, gone := b.access(t, key)
				wantP1911(t, size, ahead, b.Keys(), key, hit, gone, inG)
				all = append(all, gone...)
				if len(ahead) < size && len(gone) > 0 {
					early++
				}
			}
		}
		if early > 0 != (kind == api.LS3) {
			t.Errorf("kind %d: %d were evicted though fewer were cached", kind, early)
		}
	}
}

// What a greater LRU has behind each row.
func TestP1913(t *testing.T) {
	r := rand.New(rand.NewSource(1913))
	for i := range 20 {
		var caches []model.Cache
		for size := 1; size < 14; size++ {
			caches = append(caches, open(t, api.LLru, size))
		}
		for _, key := range asked(r, 400, 5+r.Intn(20), i%5) {
			var less []uint64
			for size, c := range caches {
				c.Access(key)
				keys := c.Keys()
				if len(keys) < len(less) || !slices.Equal(keys[:len(less)], less) {
					t.Fatalf("size %d: %v; one less: %v", size+1, keys, less)
				}
				less = keys
			}
		}
	}
}
