package verify_test

import (
	"fmt"
	"strings"
	"testing"

	"winnow/api"
)

// every goes through all programs of some instructions, place by place; what is behind a fault changes nothing of it, but for what is told of the places that one goes on at, so that it is not gone through.
type every struct {
	t       *testing.T
	p       api.Program
	choices []api.Instr
	taken   int
	faults  map[api.Errno]int
}

func (e *every) from(at int) {
	if at == len(e.p.Code) {
		if e.told() == (api.Fault{}) {
			e.taken++
		}
		return
	}
	for _, i := range e.choices {
		e.p.Code[at] = i
		if fault := e.told(); fault.Err == api.OK || fault.At >= at {
			e.from(at + 1)
		}
	}
	e.p.Code[at] = api.Instr{}
}

func (e *every) told() api.Fault {
	fault := holds(e.t, e.p).fault
	e.faults[fault.Err]++
	return fault
}

// choices reads instructions; @ stands for each place.
func choices(text string, places int) []api.Instr {
	var list []string
	for _, one := range strings.Split(text, ", ") {
		if !strings.Contains(one, "@") {
			list = append(list, one)
			continue
		}
		for at := range places {
			list = append(list, strings.ReplaceAll(one, "@", fmt.Sprint(at)))
		}
	}
	return program(strings.Join(list, ", ")).Code
}

func TestEverySmallProgram(t *testing.T) {
	for _, c := range []struct {
		length int
		text   string
		least  int
	}{
		{3, "end, num 1, bool 1, var 0, len 0, cap 1, size, total, at 0, tagx 0, tagend 0 0 0, min, max, neg, not, mul, div, add, sub, eq, lt, le, jump @, else @, loop 1, turn @, quit @, again @, set 0, markx 0, markend 0 0 0, insert 0 0, insert 1 0, move 0 0, move 1 0, forget, take 0 0, take 1 0, give 0 0, give 1 0, tell, loose, shift 0 0 1 0, shift 0 0 2 0, shift 1 0 3 0, spill 0 0 1 0, spill 1 0 0 0, evict 0 0, evict 1 0, drop 0 0, drop 1 0", 100},
		{6, "end, bool 1, not, else @, jump @", 100},
		{6, "end, take 0 0, take 1 0, give 0 0, give 1 0, tell, loose, jump @", 100},
		{7, "end, loop 2, turn @, again @, bool 1, quit @, forget", 10},
		{7, "end, loop 2, turn @, again @, jump @", 10},
		{6, "end, loop 2, turn @, again @, bool 1, num 1, set 0, else @", 50},
		{7, "end, num 1, bool 1, eq, lt, neg, not, set 0, else 4, jump 3", 20},
	} {
		e := &every{t: t, p: program("end"), choices: choices(c.text, c.length), faults: map[api.Errno]int{}}
		e.p.Code = make([]api.Instr, c.length)
		for _, begins := range [][2]int{{-1, 0}, {0, -1}, {1, 0}, {2, 0}} {
			e.p.On[0], e.p.Miss = begins[0], begins[1]
			e.from(0)
		}
		if e.taken < c.least {
			t.Errorf("%s: %d were taken, %v", c.text, e.taken, e.faults)
		}
	}
}
