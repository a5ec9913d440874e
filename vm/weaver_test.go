package vm_test

import (
	"math/rand"
	"slices"
	"strings"

	"winnow/api"
)

// label is a place that is not known yet, with the standing that it gets, and who goes on there.
type label struct {
	standing
	users []int
}

// weaver makes programs that are to be taken, by chance, and not as gen lays them: it goes on from standing to standing, and lays a label where one may lie.
type weaver struct {
	*rand.Rand
	p      api.Program
	c      api.Caps
	s      standing
	alive  bool // whether a way comes to the next place
	labels []*label
	turns  map[int]standing // with which each ITurn was come to
	leaves map[int]*label   // where each loop leaves, while that is not known
	most   int              // so many instructions, then it winds up
}

func newWeaver(seed int64) *weaver {
	w := &weaver{Rand: rand.New(rand.NewSource(seed)), turns: map[int]standing{}, leaves: map[int]*label{}}
	w.p.Ghost, w.c.Queues = []bool{false, true}, []int{1 + w.Intn(3), 1 + w.Intn(3)}
	for range w.Intn(4) {
		w.p.Ghost, w.c.Queues = append(w.p.Ghost, w.Intn(2) == 0), append(w.c.Queues, 1+w.Intn(4))
	}
	w.c.Size = slices.Max(w.c.Queues) + w.Intn(3)
	for range 1 + w.Intn(3) {
		lo, hi := -w.Intn(5), w.Intn(5)
		w.p.Vars = append(w.p.Vars, api.Var{Lo: lo, Init: lo + w.Intn(hi-lo+1), Hi: hi})
	}
	for range 1 + w.Intn(3) {
		w.p.Tags = append(w.p.Tags, 1+w.Intn(3))
	}
	w.p.On, w.p.Miss = slices.Repeat([]int{-1}, len(w.p.Ghost)), -1
	return w
}

// woven is a program, and capacities that fit it.
func woven(seed int64) (api.Program, api.Caps, *weaver) {
	w := newWeaver(seed)
	for more := true; more; more = w.Intn(3) > 0 && w.begins(1) {
		w.p.Miss = max(w.p.Miss, 0)
		w.s, w.alive = freshly, true
		w.most = len(w.p.Code) + w.Intn(50)
		if len(w.p.Code) == 0 {
			w.enter()
		}
		w.event()
	}
	return w.p, w.c, w
}

// enter brings x in, most often where there is room: so the miss begins.
func (w *weaver) enter() {
	for range w.Intn(4) {
		q := w.Intn(len(w.p.Ghost))
		w.do("len", q)
		w.do("cap", q)
		w.do("lt")
		w.otherwise()
		if !w.p.Ghost[q] {
			w.do("total")
			w.do("size")
			w.do("lt")
			w.otherwise()
		}
		w.do("insert", q, w.Intn(2))
		if w.Intn(3) == 0 {
			return
		}
		w.do("end")
		w.lay(len(w.labels) - 1)
	}
}

// begins lets some events begin here that begin nowhere yet, at least so many.
func (w *weaver) begins(least int) bool {
	n := 0
	for _, q := range w.Perm(len(w.p.On)) {
		if w.p.On[q] < 0 && (n < least || w.Intn(5) == 0) {
			w.p.On[q] = len(w.p.Code)
			n++
		}
	}
	return n >= least
}

// event goes on till no way does.
func (w *weaver) event() {
	for w.alive || len(w.labels) > 0 {
		if !w.alive {
			w.lay(w.Intn(len(w.labels)))
		}
		for n := 0; n < len(w.labels); n++ {
			if w.labels[n].standing == w.s && w.Intn(3) == 0 {
				w.lay(n)
			}
		}
		if w.s == freshly && w.Intn(20) == 0 {
			w.begins(0)
		}
		switch {
		case len(w.p.Code) > w.most:
			w.wind()
		case w.Intn(2) > 0 || !w.control():
			w.straight()
		}
	}
}

// lay lays a label here.
func (w *weaver) lay(n int) {
	l := w.labels[n]
	w.labels = slices.Delete(w.labels, n, n+1)
	for _, at := range l.users {
		w.p.Code[at].A = len(w.p.Code)
		delete(w.leaves, at)
	}
	w.s, w.alive = l.standing, true
}

// do writes an instruction that goes on at the next place.
func (w *weaver) do(name string, numbers ...int) {
	n := append(slices.Clone(numbers), 0, 0, 0, 0)
	w.p.Code = append(w.p.Code, api.Instr{Op: opOf(name), A: n[0], B: n[1], C: n[2], D: n[3]})
	w.s = w.s.behind(w.p, len(w.p.Code)-1)
}

// to is a label with that standing, a new one or not.
func (w *weaver) to(s standing) *label {
	for _, l := range w.labels {
		if l.standing == s && w.Intn(2) == 0 {
			return l
		}
	}
	l := &label{standing: s}
	w.labels = append(w.labels, l)
	return l
}

func (w *weaver) top(types string) bool { return strings.HasSuffix(w.s.operands, types) }

// control writes something that may go on elsewhere, if it may stand here.
func (w *weaver) control() bool {
	here, turn := len(w.p.Code), w.s.innermost()
	if w.s.hand != 'e' {
		return false
	}
	switch k := w.Intn(12); {
	case k <= 1 && w.top("b"):
		w.otherwise()
	case k == 2:
		w.do("jump", here)
		l := w.to(w.s)
		l.users = append(l.users, here)
		w.alive = false
	case k == 3 && len(w.s.loops) < 15:
		w.do("loop", w.Intn(4))
		w.turns[here+1] = w.s
		l := &label{standing: w.s, users: []int{here + 1}}
		w.labels = append(w.labels, l)
		w.leaves[here+1] = l
		w.do("turn", here+1)
		if w.Intn(3) > 0 {
			w.condition()
			w.do("quit", here)
			l.users = append(l.users, len(w.p.Code)-1)
		}
	case k <= 5 && turn >= 0 && w.leaves[turn] != nil && w.s.operands == w.turns[turn].operands+"b":
		w.do("quit", here)
		w.leaves[turn].users = append(w.leaves[turn].users, here)
	case k == 6 && turn >= 0 && w.s.operands == w.turns[turn].operands:
		w.do("again", turn)
		w.alive = false
	case k == 7 && w.s == freshly && w.Intn(3) == 0:
		w.do("end")
		w.alive = false
	case k == 8 && len(w.s.operands) < 200:
		w.condition()
		w.otherwise()
	case k >= 9 && len(w.s.operands) < 200:
		w.guarded()
	default:
		return false
	}
	return true
}

// otherwise writes an IElse to a label.
func (w *weaver) otherwise() {
	here := len(w.p.Code)
	w.do("else", here)
	l := w.to(w.s)
	l.users = append(l.users, here)
}

// condition writes what gives a bool, and hangs on the state.
func (w *weaver) condition() {
	q := w.Intn(len(w.p.Ghost))
	switch w.Intn(3) {
	case 0:
		w.do("at", q)
	case 1:
		w.do("num", w.Intn(3))
		w.do("len", q)
		w.do("lt")
	case 2:
		w.do("total")
		w.do("size")
		w.do("lt")
	}
}

// guarded takes from a queue, if there is something in it, or does something with x, if it is there; what is to come of that comes by chance.
func (w *weaver) guarded() {
	q, tag := w.Intn(len(w.p.Ghost)), w.Intn(len(w.p.Tags))
	if w.Intn(3) == 0 {
		w.do("at", q)
		w.otherwise()
		switch k := w.Intn(4); {
		case k == 0 && w.p.Ghost[q]:
			w.do("forget")
		case k == 0:
			w.do("move", q, w.Intn(2))
		case k == 1 && w.p.Ghost[q]:
			w.do("move", 0, w.Intn(2))
		case k == 2:
			w.do("tagx", tag)
		default:
			w.do("num", w.Intn(5)-1)
			w.do("markx", tag)
		}
		return
	}
	w.do("num", 0)
	w.do("len", q)
	w.do("lt")
	w.otherwise()
	switch {
	case w.p.Ghost[q] && w.Intn(3) == 0:
		w.do("drop", q, w.Intn(2))
	case w.Intn(4) == 0:
		w.do("tagend", q, w.Intn(2), tag)
	default:
		w.do("take", q, w.Intn(2))
		if w.s.hand == 'h' && w.Intn(2) == 0 {
			w.do("tell")
		}
	}
}

// straight writes something that goes on at the next place; seldom what is likely to trap.
func (w *weaver) straight() {
	for {
		e := table[w.Intn(len(table))]
		if strings.Contains("tagx tagend markx markend insert move forget take shift spill evict drop", e.name) && w.Intn(15) > 0 {
			continue
		}
		is := w.top(e.takes)
		if e.takes == "==" {
			is = w.top("nn") || w.top("bb")
		}
		if is && !isLoops(e.name) && !slices.Contains([]string{"end", "jump", "else"}, e.name) && w.brings(e) {
			return
		}
	}
}

// brings writes an instruction by chance, if the hand and its queues may be so.
func (w *weaver) brings(e entry) bool {
	q, r := w.Intn(len(w.p.Ghost)), w.Intn(len(w.p.Ghost))
	end, tag := w.Intn(2), w.Intn(len(w.p.Tags))
	numbers := map[string][]int{
		"num": {w.Intn(9) - 4}, "bool": {end}, "var": {w.Intn(len(w.p.Vars))}, "set": {w.Intn(len(w.p.Vars))},
		"len": {q}, "cap": {q}, "at": {q}, "tagx": {tag}, "markx": {tag}, "tagend": {q, end, tag}, "markend": {q, end, tag},
		"insert": {q, end}, "move": {q, end}, "take": {q, end}, "give": {q, end}, "evict": {q, end}, "drop": {q, end},
		"shift": {q, end, r, w.Intn(2)}, "spill": {q, end, r, w.Intn(2)},
	}[e.name]
	n := append(slices.Clone(numbers), 0, 0, 0, 0)
	i := api.Instr{Op: opOf(e.name), A: n[0], B: n[1], C: n[2], D: n[3]}
	if !w.s.mayBring(w.p, i) {
		return false
	}
	w.do(e.name, numbers...)
	return true
}

// wind goes on towards an IEnd: it empties the hand, brings the operands to those of the innermost loop, and begins that again; or ends.
func (w *weaver) wind() {
	turn, target := w.s.innermost(), ""
	if turn >= 0 {
		target = w.turns[turn].operands
	}
	rest, short := strings.CutPrefix(target, w.s.operands)
	switch {
	case w.s.hand == 'h':
		w.do("give", 0, 1)
	case w.s.hand != 'e':
		w.do("loose")
	case !short && w.top("n"):
		w.do("set", 0)
	case !short:
		w.do("else", len(w.p.Code)+1)
	case strings.HasPrefix(rest, "n"):
		w.do("total")
	case strings.HasPrefix(rest, "b"):
		w.do("at", 0)
	case turn >= 0:
		w.do("again", turn)
		w.alive = false
	default:
		w.do("end")
		w.alive = false
	}
}
