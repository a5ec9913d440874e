package engine_test

import (
	"fmt"
	"runtime"
	"strings"
	"testing"
	"time"

	"winnow/api"
	"winnow/model"
)

// within wants something to be done in a moment, also by a slow machine.
func within(t *testing.T, what string, do func()) {
	t.Helper()
	start := time.Now()
	do()
	if took := time.Since(start); took > time.Minute {
		t.Errorf("%s took %v", what, took)
	}
}

// The greatest caches, held against the models.
func TestLarge(t *testing.T) {
	const c = api.MaxCap
	for _, kind := range []int{api.LLru, api.LS3, api.LArc} {
		within(t, fmt.Sprint("kind ", kind), func() {
			e, cache := paper(t, kind, c)
			for key := range uint64(c) {
				wantLike(t, e, cache, key*0x9e3779b97f4a7c15)
			}
			for key := range uint64(300000) {
				wantLike(t, e, cache, key*key*0x9e3779b97f4a7c15)
				wantLike(t, e, cache, (c+key)*0x9e3779b97f4a7c15)
			}
			wantStanding(t, kind, e, cache)
		})
	}
}

// An Access takes as long however many keys there are, and a farm over many is done in a moment.
func TestLargeFarm(t *testing.T) {
	within(t, "a farm", func() {
		e, _ := paper(t, api.LArc, 200000)
		for key := range uint64(600000) {
			e.Access(key)
		}
		var traces [][]api.Op
		for i := range 24 {
			list := make([]api.Op, 50000)
			for k := range list {
				list[k] = api.Op{Key: uint64(500000 + k*i%150000), Remove: k%17 == 0}
			}
			traces = append(traces, list)
		}
		want := farm(t, e, 1, traces)
		for _, crew := range []int{4, 8} {
			if !sameFarm(farm(t, e, crew, traces), want) {
				t.Errorf("crew %d", crew)
			}
		}
	})
}

// Long texts load in a moment.
func TestLargeTexts(t *testing.T) {
	within(t, "loading", func() {
		text := "policy p { queue q resident; tag t in 200; on miss { if full(q) { evict q back; } insert q front; "
		text += strings.Repeat("if !empty(q) && t(back(q)) < 200 { shift q back q front; mark x t = t(x) + 1; } ", 800)
		text += "} }"
		e := load(t, text, capsOf(3, 3))
		wantPlay(t, e, "1 2 3 4", "miss, miss, miss, miss 1", "3:[0] 2:[0] 4:[200] ; ")
	})
}

// held is how many bytes are in use.
func held() uint64 {
	var m runtime.MemStats
	runtime.GC()
	runtime.ReadMemStats(&m)
	return m.HeapAlloc
}

// An engine keeps no more than its state, however much it was asked.
func TestKept(t *testing.T) {
	e, _ := paper(t, api.LArc, 100)
	traces := [][]api.Op{make([]api.Op, 2000), make([]api.Op, 3000)}
	e.Program()
	for key := range uint64(2000) {
		e.Access(key)
	}
	ahead := held()
	for key := range uint64(100000) {
		e.Access(key)
		e.Access(key / 3)
	}
	for range 200 {
		e.Farm(4, traces)
		e.Play(traces[0])
		e.Twin().Access(7)
		e.State()
		e.Layout()
		e.Program()
	}
	if now := held(); now > ahead+1<<16 {
		t.Errorf("%d bytes", now-ahead)
	}
	runtime.KeepAlive(e)
}

// An engine of a text is not the text: that may be long.
func TestKeptOfTexts(t *testing.T) {
	text, _ := model.Source(api.LLru)
	text += strings.Repeat("#", 1<<19)
	load(t, text, capsOf(5, 5))
	ahead := held()
	e := load(t, text, capsOf(5, 5))
	if now := held(); now > ahead+1<<16 {
		t.Errorf("%d bytes", now-ahead)
	}
	runtime.KeepAlive(e)
}
