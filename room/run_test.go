package room_test

import (
	"fmt"
	"math/rand"
	"slices"
	"testing"

	"winnow/api"
	"winnow/room"
	"winnow/typed"
)

// entry is a key in a queue, with its tags.
type entry struct {
	key  int
	tags []int
}

// runner does what a policy means, over plain sequences, and holds each doing against what was judged of its row.
type runner struct {
	*plain
	t      *testing.T
	text   string
	facts  []api.Facts
	queues [][]entry
	vars   []int
	key    int
	met    map[int]int // how often each row was come to
}

func newRunner(t *testing.T, text string, x *plain, facts []api.Facts) *runner {
	r := &runner{plain: x, t: t, text: text, facts: facts, queues: make([][]entry, len(x.p.Queues)), met: map[int]int{}}
	for _, v := range x.t.Vars {
		r.vars = append(r.vars, v.Init)
	}
	return r
}

func (r *runner) trap(at int, why string) {
	r.t.Helper()
	r.t.Fatalf("%s\n%v: row %d, %v: %s, at %v", r.text, r.c, at, r.p.Rows[at], why, r.queues)
}

// place is the queue at which x is, and how far from its front; -1: nowhere.
func (r *runner) place() (queue, at int) {
	for q, list := range r.queues {
		if i := slices.IndexFunc(list, func(e entry) bool { return e.key == r.key }); i >= 0 {
			return q, i
		}
	}
	return -1, -1
}

func (r *runner) total() int {
	sum := 0
	for q, list := range r.queues {
		if !r.p.Queues[q].Ghost {
			sum += len(list)
		}
	}
	return sum
}

// access is what an operation does.
func (r *runner) access(key int) {
	r.key = key
	q, _ := r.place()
	block := r.p.Miss
	if q >= 0 {
		block = r.p.On[q]
	}
	if block >= 0 {
		r.run(block)
	}
}

func (r *runner) remove(key int) {
	r.key = key
	if q, i := r.place(); q >= 0 {
		r.queues[q] = slices.Delete(r.queues[q], i, i+1)
	}
}

// lies wants what is so to be what was judged of a row.
func (r *runner) lies(at int) {
	r.met[at]++
	f := r.facts[at]
	in := func(n int, s api.Span) bool { return s.Lo <= n && n <= s.Hi }
	right := f.Reached && in(r.total(), f.Total)
	for q, list := range r.queues {
		right = right && in(len(list), f.Lens[q])
	}
	for i, n := range r.vars {
		right = right && in(n, f.Vars[i])
	}
	if q, _ := r.place(); q >= 0 {
		right = right && f.At[q]
	} else {
		right = right && f.Nowhere
	}
	if !right {
		r.trap(at, fmt.Sprintf("judged as %s; vars %v", tell(r.p, f), r.vars))
	}
}

func (r *runner) run(at int) {
	row, kids := r.p.Rows[at], r.kids[at]
	if row.Kind != api.NBlock {
		r.lies(at)
	}
	switch row.Kind {
	case api.NBlock:
		for _, kid := range kids {
			r.run(kid)
		}
	case api.NIf:
		if r.value(kids[0]) == 1 {
			r.run(kids[1])
		} else if len(kids) == 3 {
			r.run(kids[2])
		}
	case api.NLoop:
		for n := r.plain.t.Rounds[at]; n > 0 && r.value(kids[1]) == 1; n-- {
			r.run(kids[2])
		}
	case api.NSet:
		v := r.plain.t.Vars[row.N]
		r.vars[row.N] = min(max(r.value(kids[0]), v.Lo), v.Hi)
	case api.NMark:
		n := r.value(kids[1])
		r.item(kids[0]).tags[row.N] = min(max(n, 0), r.plain.t.Tags[row.N])
	case api.NCall:
		r.run(r.p.Rules[row.N])
	case api.NPass:
	default:
		r.bring(at)
	}
}

// bring does what brings entries from queue to queue.
func (r *runner) bring(at int) {
	row := r.p.Rows[at]
	q, i := r.place()
	switch row.Kind {
	case api.NInsert:
		if q >= 0 {
			r.trap(at, "x is at a queue")
		}
		r.give(at, row.N, row.End, entry{r.key, make([]int, len(r.p.Tags))})
	case api.NMove, api.NForget:
		if q < 0 || row.Kind == api.NForget && !r.p.Queues[q].Ghost {
			r.trap(at, "x is not where it must be")
		}
		e := r.queues[q][i]
		r.queues[q] = slices.Delete(r.queues[q], i, i+1)
		if row.Kind == api.NMove {
			r.give(at, row.N, row.End, e)
		}
	default:
		list := r.queues[row.N]
		if len(list) == 0 {
			r.trap(at, "the queue is empty")
		}
		i = row.End * (len(list) - 1)
		e := list[i]
		r.queues[row.N] = slices.Delete(list, i, i+1)
		if to := r.target(at); to >= 0 {
			r.give(at, to, r.p.Rows[at+1].End, e)
		}
	}
}

func (r *runner) give(at, q, end int, e entry) {
	if len(r.queues[q]) >= r.c.Queues[q] || !r.p.Queues[q].Ghost && r.total() >= r.c.Size {
		r.trap(at, "the queue has no room")
	}
	r.queues[q] = slices.Insert(r.queues[q], end*len(r.queues[q]), e)
}

func (r *runner) item(at int) *entry {
	row := r.p.Rows[at]
	if row.Kind == api.NX {
		q, i := r.place()
		if q < 0 {
			r.trap(at, "x is nowhere")
		}
		return &r.queues[q][i]
	}
	list := r.queues[row.N]
	if len(list) == 0 {
		r.trap(at, "the queue is empty")
	}
	return &list[row.End*(len(list)-1)]
}

// value is what an expression comes to, a bool as 0 or 1.
func (r *runner) value(at int) int {
	row, kids := r.p.Rows[at], r.kids[at]
	truth := func(is bool) int { return map[bool]int{true: 1}[is] }
	switch row.Kind {
	case api.NNum:
		return row.N
	case api.NTrue, api.NFalse:
		return truth(row.Kind == api.NTrue)
	case api.NSize:
		return r.c.Size
	case api.NCap:
		return r.c.Queues[row.N]
	case api.NLen:
		return len(r.queues[row.N])
	case api.NTotal:
		return r.total()
	case api.NVarOf:
		return r.vars[row.N]
	case api.NEmpty:
		return truth(len(r.queues[row.N]) == 0)
	case api.NFull:
		return truth(len(r.queues[row.N]) == r.c.Queues[row.N])
	case api.NAt:
		q, _ := r.place()
		return truth(q == row.N)
	case api.NTagOf:
		return r.item(kids[0]).tags[row.N]
	case api.NNot:
		return 1 - r.value(kids[0])
	case api.NNeg:
		return reckon(row.Kind, r.value(kids[0]), 0)
	}
	a := r.value(kids[0])
	if row.Kind == api.NAnd && a == 0 || row.Kind == api.NOr && a == 1 {
		return a
	}
	b := r.value(kids[1])
	switch row.Kind {
	case api.NAnd, api.NOr:
		return b
	case api.NEq, api.NNe, api.NLt, api.NLe, api.NGt, api.NGe:
		return truth(map[int]bool{api.NEq: a == b, api.NNe: a != b, api.NLt: a < b, api.NLe: a <= b, api.NGt: a > b, api.NGe: a >= b}[row.Kind])
	}
	return reckon(row.Kind, a, b)
}

// fill makes any state that may be. (The judgment knows nothing of the states ahead of an operation: it must hold of each.)
func (r *runner) fill(c *rand.Rand) {
	key := 0
	for q := range r.queues {
		r.queues[q] = nil
	}
	for _, q := range c.Perm(len(r.queues)) {
		for range c.Intn(r.c.Queues[q] + 1) {
			if !r.p.Queues[q].Ghost && r.total() == r.c.Size {
				break
			}
			e := entry{key: key}
			for _, most := range r.plain.t.Tags {
				e.tags = append(e.tags, c.Intn(most+1))
			}
			r.queues[q] = append(r.queues[q], e)
			key++
		}
	}
	for i, v := range r.plain.t.Vars {
		r.vars[i] = v.Lo + c.Intn(v.Hi-v.Lo+1)
	}
}

// play wants rows of operations, from the empty state on and from any, to do nothing but what was judged.
func (r *runner) play(seed int64, operations int) {
	c := rand.New(rand.NewSource(seed))
	keys := 2 + c.Intn(12)
	for n := range operations {
		if n > operations/4 && n%3 == 0 {
			r.fill(c)
		}
		if c.Intn(12) == 0 {
			r.remove(c.Intn(keys))
		} else {
			r.access(c.Intn(keys))
		}
	}
}

func TestP904(t *testing.T) {
	come, reached := 0, 0
	for seed := range int64(2500) {
		m := newMaker(seed, []float64{1, 0.99}[seed%2])
		text := m.text()
		p := whole(t, text)
		c := m.caps(p.Queues)
		if c.Size > 100 {
			continue
		}
		u, _ := typed.Check(p, c)
		facts, fault := room.Judge(p, u, c)
		if fault != (api.Fault{}) {
			continue
		}
		r := newRunner(t, text, newPlain(p, u, c), facts)
		r.play(seed, 80)
		come += len(r.met)
		for _, f := range facts {
			if f.Reached {
				reached++
			}
		}
	}
	if come < reached/2 {
		t.Errorf("runs came to %d rows of %d", come, reached)
	}
}

// The texts of the papers are taken under all capacities that fit them and meet their requirements.
func TestPublished(t *testing.T) {
	chance := rand.New(rand.NewSource(9))
	for _, text := range published {
		p := whole(t, text)
		taken := 0
		for n := 0; taken < 100; n++ {
			c := api.Caps{Size: 1 + chance.Intn(30)}
			if n%20 == 0 {
				c.Size = 1 << 20
			}
			for _, queue := range p.Queues {
				most := c.Size
				if queue.Ghost {
					most = 50
				}
				c.Queues = append(c.Queues, []int{most, most, most, 1 + chance.Intn(most)}[chance.Intn(4)])
			}
			u, fault := typed.Check(p, c)
			if fault != (api.Fault{}) {
				continue
			}
			taken++
			facts, fault := room.Judge(p, u, c)
			if fault != (api.Fault{}) {
				t.Fatalf("%s under %v: %v", p.Name, c, fault)
			}
			if c.Size < 100 {
				newRunner(t, text, newPlain(p, u, c), facts).play(int64(n), 100)
			}
		}
	}
}
