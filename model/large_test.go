package model_test

import (
	"fmt"
	"runtime"
	"testing"
	"time"

	"winnow/api"
	"winnow/model"
)

// within wants something to be done in a moment.
func within(t *testing.T, what string, do func()) {
	t.Helper()
	start := time.Now()
	do()
	if took := time.Since(start); took > 30*time.Second {
		t.Errorf("%s took %v", what, took)
	}
}

// The greatest caches: filled, asked for all of it twice, and then for as many others.
func TestLarge(t *testing.T) {
	const c = api.MaxCap
	for kind := range least {
		within(t, fmt.Sprint("kind ", kind), func() {
			m := open(t, kind, c)
			for key := range uint64(c) {
				if hit, gone := m.Access(key); hit || len(gone) > 0 {
					t.Fatalf("kind %d, %d: %s", kind, key, tell(hit, gone))
				}
			}
			for key := range uint64(2 * c) {
				if hit, gone := m.Access(key % c); !hit || len(gone) > 0 {
					t.Fatalf("kind %d, %d: %s", kind, key%c, tell(hit, gone))
				}
			}
			evicted := 0
			for key := range uint64(c) {
				hit, gone := m.Access(c + key)
				evicted += len(gone)
				if hit {
					t.Fatalf("kind %d, %d: a hit", kind, c+key)
				}
			}
			if left := len(m.Keys()); left+evicted != 2*c || left > c {
				t.Errorf("kind %d: %d left, %d evicted", kind, left, evicted)
			}
		})
	}
}

// Hits deep in the rows of the greatest caches: a key is found and brought to the front wherever it stands.
func TestLargeDeep(t *testing.T) {
	const c = api.MaxCap
	for _, kind := range []int{api.LLru, api.LArc} {
		within(t, fmt.Sprint("kind ", kind), func() {
			m := open(t, kind, c)
			for key := range uint64(c) {
				m.Access(key)
			}
			for key := range uint64(c) {
				if hit, _ := m.Access(key / 2 * 2); !hit {
					t.Fatalf("kind %d, %d: a miss", kind, key/2*2)
				}
			}
			// An LRU's front is what was asked for last; of an ARC the odd keys are still in T1, ahead of those that were.
			first := map[int]uint64{api.LLru: c - 2, api.LArc: c - 1}[kind]
			if keys := m.Keys(); len(keys) != c || keys[0] != first {
				t.Errorf("kind %d: %d keys, the first one %d; want %d", kind, len(keys), keys[0], first)
			}
		})
	}
}

// held is how many bytes are in use.
func held() uint64 {
	var m runtime.MemStats
	runtime.GC()
	runtime.ReadMemStats(&m)
	return m.HeapAlloc
}

// A cache keeps no more than its rows have, however many keys came: none of those that went.
func TestKept(t *testing.T) {
	for kind := range least {
		for _, size := range []int{10, 1000} {
			ahead := held()
			c := open(t, kind, size)
			for key := range uint64(400000) {
				c.Access(key)
				c.Access(key / 3)
			}
			if now := held(); now > ahead+uint64(1<<16+size*400) {
				t.Errorf("kind %d, size %d: %d bytes", kind, size, now-ahead)
			}
			runtime.KeepAlive(c)
		}
	}
}

// A cache without keys is a small one, whatever its size.
func TestKeptOfNone(t *testing.T) {
	ahead := held()
	var list []model.Cache
	for i := range 600 {
		list = append(list, open(t, i%api.LCount, api.MaxCap-i))
	}
	if now := held(); now > ahead+600*4096 {
		t.Errorf("%d bytes", now-ahead)
	}
	runtime.KeepAlive(list)
}
