package engine

import (
	"sync"
	"sync/atomic"

	"winnow/api"
)

// farm is what a crew shares, and the one that tends it.
type farm struct {
	mutex  sync.Mutex
	engine *Engine // asked under the mutex alone
	traces [][]api.Op
	next   chan int // the numbers of traces that are to be played
	out    chan played
	left   atomic.Int64 // how many traces have not been told yet
	crew   sync.WaitGroup
}

// played is what a trace's operations answered.
type played struct {
	trace int
	told  []api.Told
}

func newFarm(e *Engine, traces [][]api.Op) *farm {
	f := &farm{engine: e, traces: traces, next: make(chan int), out: make(chan played)}
	f.left.Store(int64(len(traces)))
	return f
}

func (f *farm) hire(crew int) {
	for range crew {
		f.crew.Add(1)
		go f.work()
	}
}

// work plays one trace behind the other. Whoever tells the last one closes what they are told over: by then all others have told theirs.
func (f *farm) work() {
	defer f.crew.Done()
	for trace := range f.next {
		f.out <- played{trace, f.twin().Play(f.traces[trace])}
		if f.left.Add(-1) == 0 {
			close(f.out)
		}
	}
}

// twin is made by one goroutine at a time: nothing says that a machine may be asked by several at once.
func (f *farm) twin() *Engine {
	f.mutex.Lock()
	defer f.mutex.Unlock()
	return f.engine.Twin()
}

// tend hands out the traces, of which there is one at least, and gathers what comes out, till all of it is there and the crew has gone. Each answer has a place of its own: so when it comes is not seen.
func (f *farm) tend() [][]api.Told {
	list := make([][]api.Told, len(f.traces))
	next, trace := f.next, 0
	for {
		select {
		case next <- trace:
			if trace++; trace == len(f.traces) {
				close(next)
				next = nil // a send to which is never ready
			}
		case p, more := <-f.out:
			if !more {
				f.crew.Wait()
				return list
			}
			list[p.trace] = p.told
		}
	}
}
