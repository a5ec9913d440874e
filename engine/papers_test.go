package engine_test

import (
	"fmt"
	"math/rand"
	"slices"
	"testing"

	"winnow/api"
	"winnow/engine"
	"winnow/model"
	"winnow/typed"
)

// least is the least size of each kind.
var least = []int{api.LFifo: 1, api.LLru: 1, api.LClock: 1, api.LTwoQ: 2, api.LS3: 10, api.LArc: 1}

// standing are the resident queues of each kind's text, in the order of its model's rows.
var standing = [][]int{api.LFifo: {0}, api.LLru: {0}, api.LClock: {0}, api.LTwoQ: {0, 2}, api.LS3: {0, 1}, api.LArc: {0, 1}}

func paper(t *testing.T, kind, size int) (*engine.Engine, model.Cache) {
	t.Helper()
	text, wrong := model.Source(kind)
	c, bad := model.Caps(kind, size)
	cache, err := model.New(kind, size)
	if wrong != api.OK || bad != api.OK || err != api.OK {
		t.Fatalf("kind %d, size %d: %v, %v, %v", kind, size, wrong, bad, err)
	}
	return load(t, text, c), cache
}

// wantLike has an engine answer as the cache does.
func wantLike(t *testing.T, e *engine.Engine, cache model.Cache, key uint64) []uint64 {
	t.Helper()
	hit, gone := cache.Access(key)
	if a := e.Access(key); a.Trap != api.TNone || a.Hit != hit || !slices.Equal(a.Evicted, gone) {
		t.Fatalf("%d: %v; want %v, %v", key, a, hit, gone)
	}
	return gone
}

// wantStanding has an engine's resident keys stand as the cached ones.
func wantStanding(t *testing.T, kind int, e *engine.Engine, cache model.Cache) {
	t.Helper()
	var got []uint64
	s := e.State()
	for _, q := range standing[kind] {
		for _, x := range s.Queues[q] {
			got = append(got, x.Key)
		}
	}
	if want := cache.Keys(); !slices.Equal(got, want) {
		t.Fatalf("kind %d: %v; want %v", kind, got, want)
	}
}

// asked are keys by chance: some far more often than others, scans, repetitions.
func asked(r *rand.Rand, n, most int) []uint64 {
	var list []uint64
	for len(list) < n {
		first, length := r.Intn(most), r.Intn(most/2+2)
		switch r.Intn(4) {
		case 0:
			for i := range length {
				list = append(list, uint64(first+i))
			}
		case 1:
			for i := range 3 * length {
				list = append(list, uint64(first+i%length))
			}
		default:
			for range 8 {
				list = append(list, uint64(r.Intn(1+r.Intn(most))))
			}
		}
	}
	return list[:n]
}

// Under its capacities each text loads, and its engine answers what the model does (T4).
func TestP1912(t *testing.T) {
	r := rand.New(rand.NewSource(1912))
	for kind, first := range least {
		for i := range 60 {
			size := first + i%20 + i/45*r.Intn(200)
			e, cache := paper(t, kind, size)
			var gone []uint64
			for n, key := range asked(r, 800, size+1+r.Intn(2*size+3)) {
				if len(gone) > 0 && r.Intn(5) < i%4 {
					key = gone[len(gone)-1-r.Intn(min(len(gone), 2*size))]
				}
				gone = append(gone, wantLike(t, e, cache, key)...)
				if n%40 == 0 {
					wantStanding(t, kind, e, cache)
				}
			}
			wantStanding(t, kind, e, cache)
		}
	}
}

// All short rows of keys, over small engines.
func TestP1912ShortRows(t *testing.T) {
	for kind, first := range least {
		if kind == api.LS3 {
			continue
		}
		for size := first; size < first+3; size++ {
			text, _ := model.Source(kind)
			c, _ := model.Caps(kind, size)
			base := load(t, text, c)
			eachRow(7, func(keys []uint64) {
				e := base.Twin()
				cache, _ := model.New(kind, size)
				for _, key := range keys {
					wantLike(t, e, cache, key)
				}
				wantStanding(t, kind, e, cache)
			})
		}
	}
}

// eachRow goes over all rows of so many keys: a key is one that stands ahead of it, or the next new one.
func eachRow(n int, do func([]uint64)) {
	list := make([]uint64, n)
	var put func(at int, fresh uint64)
	put = func(at int, fresh uint64) {
		if at == n {
			do(list)
			return
		}
		for key := range fresh + 1 {
			list[at] = key
			put(at+1, max(fresh, key+1))
		}
	}
	put(0, 0)
}

// Each text loads under its capacities for every size.
func TestP1912Loads(t *testing.T) {
	for kind, first := range least {
		sizes := []int{1000, 4095, 65537, api.MaxCap / 2, api.MaxCap - 1, api.MaxCap}
		for size := first; size < first+120; size++ {
			sizes = append(sizes, size)
		}
		for _, size := range sizes {
			e, cache := paper(t, kind, size)
			for key := range uint64(30) {
				wantLike(t, e, cache, key*key%23)
			}
			wantStanding(t, kind, e, cache)
		}
	}
}

// meets tells whether capacities meet a text's requirements, as they are read there.
func meets(kind int, c api.Caps) bool {
	switch kind {
	case api.LTwoQ:
		return c.Size >= 2 && c.Queues[0] == c.Size && c.Queues[2] == c.Size
	case api.LS3:
		return c.Size >= 10 && c.Queues[0] == c.Size
	case api.LArc:
		return c.Queues[0] == c.Size && c.Queues[1] == c.Size
	}
	return true
}

// Each text loads under just the capacities that fit it and meet its requirements.
func TestT2(t *testing.T) {
	r := rand.New(rand.NewSource(2))
	for kind := range least {
		text, _ := model.Source(kind)
		c, _ := model.Caps(kind, 10)
		p, _, _ := plainLoad(text, c)
		met := map[api.Errno]int{}
		for range 1500 {
			c := someCaps(r, p.Queues)
			want := api.OK
			if typed.Fit(p, c) != (api.Fault{}) {
				want = api.ErrCaps
			} else if !meets(kind, c) {
				want = api.ErrRequire
			}
			e, fault := engine.Load([]byte(text), c)
			if fault.Err != want || (e != nil) != (want == api.OK) {
				t.Fatalf("%s, %v: %v; want %v", p.Name, c, fault, want)
			}
			met[want]++
		}
		if met[api.OK] < 100 || met[api.ErrCaps] < 100 || kind >= api.LTwoQ && met[api.ErrRequire] < 100 {
			t.Errorf("%s: %v", p.Name, met)
		}
	}
}

// someCaps are capacities by chance, near to what may be.
func someCaps(r *rand.Rand, queues []api.Queue) api.Caps {
	some := func() int { return 1 + r.Intn([]int{3, 30, api.MaxCap}[r.Intn(3)]) }
	c := api.Caps{Size: some()}
	for _, q := range queues {
		n := c.Size
		if q.Ghost || r.Intn(4) == 0 {
			n = some()
		}
		c.Queues = append(c.Queues, n)
	}
	switch i := r.Intn(len(queues)); r.Intn(12) {
	case 0:
		c.Size = []int{0, -1, api.MaxCap + 1}[r.Intn(3)]
	case 1:
		c.Queues[i] = []int{0, -1, api.MaxCap + 1, c.Size + 1}[r.Intn(4)]
	case 2:
		c.Queues = append(c.Queues, 1)
	case 3:
		c.Queues = c.Queues[1:]
	}
	return c
}

// An LRU of one more holds all that the lesser one does.
func TestT4Greater(t *testing.T) {
	r := rand.New(rand.NewSource(4))
	for range 10 {
		var list []*engine.Engine
		for size := 1; size < 12; size++ {
			e, _ := paper(t, api.LLru, size)
			list = append(list, e)
		}
		for _, key := range asked(r, 300, 5+r.Intn(20)) {
			var less []api.Entry
			for size, e := range list {
				e.Access(key)
				now := e.State().Queues[0]
				if len(now) < len(less) || !sameQueue(now[:len(less)], less) {
					t.Fatalf("size %d: %v; one less: %v", size+1, now, less)
				}
				less = now
			}
		}
	}
}

// The texts in farms: their answers are the models'.
func TestP1912Farm(t *testing.T) {
	r := rand.New(rand.NewSource(11))
	for kind, first := range least {
		size := first + 5
		e, _ := paper(t, kind, size)
		var traces [][]api.Op
		var want []string
		for range 20 {
			cache, _ := model.New(kind, size)
			var list []api.Op
			var told []api.Told
			for _, key := range asked(r, 200, 3*size) {
				list = append(list, api.Op{Key: key})
				hit, gone := cache.Access(key)
				told = append(told, api.Told{Answer: api.Answer{Hit: hit, Evicted: gone}})
			}
			traces, want = append(traces, list), append(want, tell(told))
		}
		for _, crew := range []int{1, 3, 8} {
			for i, list := range farm(t, e, crew, traces) {
				if got := tell(list); got != want[i] {
					t.Fatalf("kind %d, crew %d, trace %d: %s; want %s", kind, crew, i, got, want[i])
				}
			}
		}
		if got := fmt.Sprint(e.Stats()); got != "{0 0 0 0}" {
			t.Errorf("kind %d: %s", kind, got)
		}
	}
}
