package gen

import "winnow/api"

const (
	missEvent = -1 // its number among the events
	nowhere   = -1 // where an event without rows begins
)

// writer writes the code of events, one behind the other. The table has the kids' code in the kids' order, so an event's acts are read from the first one on, each once.
type writer struct {
	code   []api.Instr
	events []int // of each instruction: whose it is
	rows   []int // and for which row of that event it stands

	event int
	acts  []api.Act
	next  int      // the row that is read next
	fills []func() // what puts in the places that were not known when an instruction was written
}

// plan writes all events of a right plan, and tells where they begin.
func (w *writer) plan(p api.Plan) (on []int, miss int) {
	for q, acts := range p.On {
		on = append(on, w.whole(q, acts))
	}
	return on, w.whole(missEvent, p.Miss)
}

// whole writes an event, and tells where it begins.
func (w *writer) whole(event int, acts []api.Act) (at int) {
	if len(acts) == 0 {
		return nowhere
	}
	defer w.fill()
	w.event, w.acts, w.next = event, acts, 0
	at = w.here()
	w.act()
	w.write(0, api.Instr{Op: api.IEnd})
	return at
}

func (w *writer) fill() {
	for _, fill := range w.fills {
		fill()
	}
	w.fills = nil
}

// here is the place of the instruction that comes next.
func (w *writer) here() int { return len(w.code) }

func (w *writer) write(row int, i api.Instr) {
	w.code = append(w.code, i)
	w.events = append(w.events, w.event)
	w.rows = append(w.rows, row)
}

// writeTo writes an instruction with a place that may be known only when the event's code is done.
func (w *writer) writeTo(row, op int, place *int) {
	at := w.here()
	w.write(row, api.Instr{Op: op})
	w.fills = append(w.fills, func() { w.code[at].A = *place })
}

func (w *writer) read() (act api.Act, row int) {
	row = w.next
	w.next++
	return w.acts[row], row
}

// act writes the next row with all of its own.
func (w *writer) act() {
	act, row := w.read()
	switch f := forms[act.Kind]; f.lies {
	case kidsAlone:
		w.kids(act.Kids)
	case kidsFirst:
		w.kids(act.Kids)
		w.write(row, api.Instr{Op: f.op, A: act.A, B: act.B, C: act.C, D: act.D})
	case itemFirst:
		item, _ := w.read()
		w.kids(act.Kids - 1)
		w.write(row, f.of(act, item))
	case ifCode:
		w.choice(row, act.Kids)
	case loopCode:
		w.loop(row, act.A)
	case andCode:
		w.and(row)
	case orCode:
		w.or(row)
	}
}

func (w *writer) kids(n int) {
	for range n {
		w.act()
	}
}

// of is the instruction of an act whose first kid is an item.
func (f form) of(act, item api.Act) api.Instr {
	if item.Kind == api.RX {
		return api.Instr{Op: f.op, A: act.A}
	}
	return api.Instr{Op: f.opEnd, A: item.A, B: item.B, C: act.A}
}

func (w *writer) choice(row, kids int) {
	var other, end int
	w.act()
	w.writeTo(row, api.IElse, &other)
	w.act()
	if kids == 3 {
		w.writeTo(row, api.IJump, &end)
	}
	other = w.here()
	w.kids(kids - 2)
	end = w.here()
}

func (w *writer) loop(row, rounds int) {
	var turn, end int
	w.write(row, api.Instr{Op: api.ILoop, A: rounds})
	turn = w.here()
	w.writeTo(row, api.ITurn, &end)
	w.act()
	w.writeTo(row, api.IQuit, &end)
	w.act()
	w.writeTo(row, api.IAgain, &turn)
	end = w.here()
}

func (w *writer) and(row int) {
	var other, end int
	w.act()
	w.writeTo(row, api.IElse, &other)
	w.act()
	w.writeTo(row, api.IJump, &end)
	other = w.here()
	w.write(row, api.Instr{Op: api.IBool, A: 0})
	end = w.here()
}

func (w *writer) or(row int) {
	var other, end int
	w.act()
	w.writeTo(row, api.IElse, &other)
	w.write(row, api.Instr{Op: api.IBool, A: 1})
	w.writeTo(row, api.IJump, &end)
	other = w.here()
	w.act()
	end = w.here()
}
