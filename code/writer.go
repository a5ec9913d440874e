package code

import "winnow/api"

// firstByte tells that what follows is a program.
const firstByte = 87

// writer writes a program that may be written.
type writer struct {
	bytes []byte
	ways  [kinds]way
}

func (w *writer) program(p api.Program) {
	w.put(firstByte)
	w.tables(p)
	for _, at := range p.On {
		w.number(at + 1)
	}
	w.number(p.Miss + 1)
	w.number(len(p.Code))
	for _, i := range p.Code {
		w.instr(i)
	}
}

func (w *writer) tables(p api.Program) {
	w.number(len(p.Ghost))
	for _, ghost := range p.Ghost {
		w.ghost(ghost)
	}
	w.number(len(p.Vars))
	for _, v := range p.Vars {
		w.signed(v.Init)
		w.signed(v.Lo)
		w.signed(v.Hi)
	}
	w.number(len(p.Tags))
	for _, most := range p.Tags {
		w.number(most)
	}
}

func (w *writer) instr(i api.Instr) {
	w.number(i.Op)
	operands := operandsOf(i)
	for at, k := range kindsOf(i.Op) {
		w.ways[k].write(w, operands[at])
	}
}

func (w *writer) put(b byte) { w.bytes = append(w.bytes, b) }

func (w *writer) ghost(is bool) {
	if is {
		w.put(1)
	} else {
		w.put(0)
	}
}

func (w *writer) nothing(int) {}

func (w *writer) number(n int) {
	for n >= 128 {
		w.put(byte(n&127) + 128)
		n >>= 7
	}
	w.put(byte(n))
}

func (w *writer) signed(n int) {
	if n < 0 {
		w.number(-2*n - 1)
	} else {
		w.number(2 * n)
	}
}
