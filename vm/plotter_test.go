package vm_test

import (
	"math/rand"
	"slices"

	"winnow/api"
)

// plotter makes right plans by chance.
type plotter struct {
	*rand.Rand
	care              float64 // how often a guard is there
	p                 api.Plan
	c                 api.Caps
	residents, ghosts []int
}

func newPlotter(seed int64, care float64) *plotter {
	r := &plotter{Rand: rand.New(rand.NewSource(seed)), care: care}
	r.c.Size = 1 + r.Intn(6)
	for q := range 1 + r.Intn(5) {
		ghost := q > 0 && r.Intn(2) == 0
		most := r.c.Size
		if ghost {
			most = 4
			r.ghosts = append(r.ghosts, q)
		} else {
			r.residents = append(r.residents, q)
		}
		r.p.Ghost = append(r.p.Ghost, ghost)
		r.c.Queues = append(r.c.Queues, most-r.Intn(min(most, 3)))
	}
	for range r.Intn(4) {
		v := api.Var{Lo: r.one(0, -3, -api.MaxNum), Hi: r.one(0, 2, 9, api.MaxNum)}
		v.Init = v.Lo + r.Intn(v.Hi-v.Lo+1)
		r.p.Vars = append(r.p.Vars, v)
	}
	for range r.Intn(5) {
		r.p.Tags = append(r.p.Tags, r.one(1, 3, 255))
	}
	return r
}

func (r *plotter) one(list ...int) int { return list[r.Intn(len(list))] }

func (r *plotter) queue() int { return r.Intn(len(r.p.Ghost)) }

func (r *plotter) end() int { return r.Intn(2) }

// plan has most often a miss that brings x in, so that there is something to do.
func (r *plotter) plan() api.Plan {
	for range r.p.Ghost {
		var rows []api.Act
		if r.Intn(4) > 0 {
			rows = r.block(3).flat()
		}
		r.p.On = append(r.p.On, rows)
	}
	miss := mk(api.RBlock)
	if r.Intn(3) == 0 {
		miss.with(r.doings(3)...)
	}
	if r.Intn(8) > 0 {
		miss.with(r.insert()...)
	}
	if r.Intn(3) == 0 {
		miss.with(r.doings(3)...)
	}
	if r.Intn(10) > 0 {
		r.p.Miss = miss.flat()
	}
	return r.p
}

func (r *plotter) block(depth int) *tree { return mk(api.RBlock).with(r.doings(depth)...) }

func (r *plotter) doings(depth int) []*tree {
	var list []*tree
	for range r.Intn(5) {
		list = append(list, r.doing(depth)...)
	}
	return list
}

// guarded puts guards around doings that belong together.
func (r *plotter) guarded(list []*tree, needs ...*tree) []*tree {
	needs = slices.DeleteFunc(needs, func(*tree) bool { return r.Float64() > r.care })
	for _, need := range needs {
		block := mk(api.RBlock).with(list...)
		if r.Intn(3) == 0 {
			list = []*tree{mk(api.RIf).with(mk(api.RNot).with(need), mk(api.RBlock), block)}
		} else {
			list = []*tree{mk(api.RIf).with(need, block)}
		}
	}
	return list
}

func (r *plotter) some(q int) *tree {
	return mk(api.RLt).with(mk(api.RNum), mk(api.RLen, q))
}

func (r *plotter) room(q int) []*tree {
	list := []*tree{mk(api.RLt).with(mk(api.RLen, q), mk(api.RNum, r.c.Queues[q]))}
	if !r.p.Ghost[q] {
		list = append(list, mk(api.RLt).with(mk(api.RTotal), mk(api.RNum, r.c.Size)))
	}
	return list
}

// somewhere says that x is at one of these queues.
func somewhere(queues []int) *tree {
	var x *tree
	for _, q := range queues {
		if x == nil {
			x = mk(api.RAt, q)
		} else {
			x = mk(api.ROr).with(x, mk(api.RAt, q))
		}
	}
	return x
}

func (r *plotter) all() []int { return slices.Concat(r.residents, r.ghosts) }

func (r *plotter) insert() []*tree {
	q := r.queue()
	return r.guarded([]*tree{mk(api.RInsert, q, r.end())}, append(r.room(q), mk(api.RNot).with(somewhere(r.all())))...)
}

func (r *plotter) doing(depth int) []*tree {
	n := 12
	if depth == 0 {
		n = 8
	}
	q := r.one(r.residents...)
	switch k := r.Intn(n); {
	case k == 0:
		return r.insert()
	case k == 1:
		return r.guarded([]*tree{mk(api.RMove, q, r.end())}, append(r.room(q), somewhere(r.all()))...)
	case k == 2 && len(r.ghosts) > 0:
		return r.guarded([]*tree{mk(api.RForget)}, somewhere(r.ghosts))
	case k == 3, k == 4:
		return r.hand()
	case k == 5 && len(r.p.Vars) > 0:
		return []*tree{mk(api.RSet, r.Intn(len(r.p.Vars))).with(r.number(3))}
	case k == 6 && len(r.p.Tags) > 0:
		return r.mark()
	case k == 8:
		return []*tree{r.block(depth - 1)}
	case k == 9:
		return []*tree{mk(api.RLoop, r.one(0, 1, 2, 3, 6)).with(r.truth(2), r.block(depth-1))}
	case k == 10:
		return []*tree{mk(api.RIf).with(r.truth(3), r.block(depth-1))}
	case k == 11:
		return []*tree{mk(api.RIf).with(r.truth(3), r.block(depth-1), r.block(depth-1))}
	}
	return nil
}

func (r *plotter) mark() []*tree {
	var list []*tree
	for range 1 + r.Intn(2) {
		item, need := r.item()
		list = append(list, r.guarded([]*tree{mk(api.RMark, r.Intn(len(r.p.Tags))).with(item, r.number(2))}, need)...)
	}
	return list
}

// hand takes from somewhere, in small parts or at once.
func (r *plotter) hand() []*tree {
	q, e, f := r.one(r.residents...), r.end(), r.end()
	to := r.one(r.residents...)
	take, tell, loose := mk(api.RTake, q, e), mk(api.RTell), mk(api.RLoose)
	needs := []*tree{r.some(q)}
	parts, whole := []*tree{take, tell, loose}, mk(api.REvict, q, e)
	ghost := len(r.ghosts) > 0
	switch k := r.Intn(5); {
	case k == 0:
		parts, whole = []*tree{take, mk(api.RGive, to, f)}, mk(api.RShift, q, e, to, f)
		if to != q {
			needs = append(needs, r.room(to)[0])
		}
	case k == 1 && ghost:
		to = r.one(r.ghosts...)
		parts, whole = []*tree{take, tell, mk(api.RGive, to, f)}, mk(api.RSpill, q, e, to, f)
		needs = append(needs, r.room(to)...)
	case k == 2 && ghost:
		q, to = r.one(r.ghosts...), r.one(r.ghosts...)
		parts, whole = []*tree{mk(api.RTake, q, e), mk(api.RGive, to, f)}, mk(api.RShift, q, e, to, f)
		needs = []*tree{r.some(q)}
		if to != q {
			needs = append(needs, r.room(to)...)
		}
	case k == 3 && ghost:
		q = r.one(r.ghosts...)
		parts, whole = []*tree{mk(api.RTake, q, e), loose}, mk(api.RDrop, q, e)
		needs = []*tree{r.some(q)}
	}
	if r.Intn(2) == 0 {
		parts = []*tree{whole}
	}
	return r.guarded(parts, needs...)
}

// item is one, and what it needs.
func (r *plotter) item() (item, need *tree) {
	if r.Intn(2) == 0 {
		return mk(api.RX), somewhere(r.all())
	}
	q := r.queue()
	return mk(api.REnd, q, r.end()), r.some(q)
}

func (r *plotter) number(depth int) *tree {
	if depth > 0 && r.Intn(3) > 0 {
		kind := r.one(api.RMin, api.RMax, api.RNeg, api.RMul, api.RDiv, api.RAdd, api.RSub)
		if kind == api.RNeg {
			return mk(kind).with(r.number(depth - 1))
		}
		return mk(kind).with(r.number(depth-1), r.number(depth-1))
	}
	switch k := r.Intn(12); {
	case k <= 3 && len(r.p.Vars) > 0:
		return mk(api.RVar, r.Intn(len(r.p.Vars)))
	case k <= 5:
		return mk(api.RLen, r.queue())
	case k == 6:
		return mk(api.RTotal)
	case k == 7 && len(r.p.Tags) > 0 && r.Float64() > r.care-0.5:
		item, _ := r.item()
		return mk(api.RTag, r.Intn(len(r.p.Tags))).with(item)
	case k == 8:
		return mk(api.RNum, r.one(-1, -3, api.MaxNum, -api.MaxNum, 1<<20))
	}
	return mk(api.RNum, r.Intn(6))
}

func (r *plotter) truth(depth int) *tree {
	if depth > 0 && r.Intn(5) > 0 {
		switch kind := r.one(api.REq, api.RLt, api.RLe, api.RNot, api.RAnd, api.ROr, api.RLt, api.RLe); {
		case kind == api.RNot:
			return mk(kind).with(r.truth(depth - 1))
		case kind == api.RAnd || kind == api.ROr || kind == api.REq && r.Intn(3) == 0:
			return mk(kind).with(r.truth(depth-1), r.truth(depth-1))
		default:
			return mk(kind).with(r.number(depth-1), r.number(depth-1))
		}
	}
	if r.Intn(3) == 0 {
		return mk(api.RBool, r.Intn(2))
	}
	return mk(api.RAt, r.queue())
}
