package code

import (
	"strconv"
	"strings"

	"winnow/api"
)

// opNames are the instructions' names, in the order of their numbers.
const opNames = "end num bool var len cap size total at tagx tagend min max neg not mul div add sub eq lt le jump else loop turn quit again set markx markend insert move forget take give tell loose shift spill evict drop"

// lister tells a program that may be written as text.
type lister struct {
	text  []byte
	names []string
	ways  [kinds]way
}

func newLister() *lister {
	return &lister{names: strings.Fields(opNames), ways: ways()}
}

func (l *lister) program(p api.Program) {
	for at, i := range p.Code {
		l.events(p, at)
		l.instr(at, i)
	}
}

// events tells which events begin at a place.
func (l *lister) events(p api.Program, at int) {
	for q, begins := range p.On {
		if begins == at {
			l.add("on q")
			l.digits(q)
			l.add(":\n")
		}
	}
	if p.Miss == at {
		l.add("miss:\n")
	}
}

func (l *lister) instr(at int, i api.Instr) {
	l.digits(at)
	l.add(": ")
	l.add(l.names[i.Op])
	operands := operandsOf(i)
	for at, k := range kindsOf(i.Op) {
		l.ways[k].tell(l, operands[at])
	}
	l.add("\n")
}

func (l *lister) add(text string) { l.text = append(l.text, text...) }

func (l *lister) digits(n int) { l.text = strconv.AppendInt(l.text, int64(n), 10) }

func (l *lister) nothing(int) {}

func (l *lister) queue(n int) {
	l.add(" q")
	l.digits(n)
}

func (l *lister) variable(n int) {
	l.add(" v")
	l.digits(n)
}

func (l *lister) tag(n int) {
	l.add(" t")
	l.digits(n)
}

func (l *lister) end(n int) {
	if n == api.Front {
		l.add(" front")
	} else {
		l.add(" back")
	}
}

func (l *lister) number(n int) {
	l.add(" ")
	l.digits(n)
}

func (l *lister) truth(n int) {
	if n == 1 {
		l.add(" true")
	} else {
		l.add(" false")
	}
}

func (l *lister) place(n int) {
	l.add(" @")
	l.digits(n)
}
