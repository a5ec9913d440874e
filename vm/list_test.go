package vm_test

import (
	"fmt"
	"strconv"
	"strings"

	"winnow/api"
)

// entry is what chapters 14 and 16 say of an instruction.
type entry struct {
	name     string
	operands int
	takes    string // n: a number, b: a bool; ==: two of one type
	gives    string
	hands    string // those that it may find: e: empty, g: a ghost, h: held, t: told; ?: its queue says
}

// table has the instructions in the order of their numbers.
var table = entries(`
	end 0 - - e
	num 1 - n eght
	bool 1 - b eght
	var 1 - n eght
	len 1 - n eght
	cap 1 - n eght
	size 0 - n eght
	total 0 - n eght
	at 1 - b eght
	tagx 1 - n eght
	tagend 3 - n eght
	min 0 nn n eght
	max 0 nn n eght
	neg 0 n n eght
	not 0 b b eght
	mul 0 nn n eght
	div 0 nn n eght
	add 0 nn n eght
	sub 0 nn n eght
	eq 0 == b eght
	lt 0 nn b eght
	le 0 nn b eght
	jump 1 - - e
	else 1 b - e
	loop 1 - - e
	turn 1 - - e
	quit 1 b - e
	again 1 - - e
	set 1 n - eght
	markx 1 n - eght
	markend 3 n - eght
	insert 2 - - e
	move 2 - - e
	forget 0 - - e
	take 2 - - e
	give 2 - - ?
	tell 0 - - h
	loose 0 - - gt
	shift 4 - - e
	spill 4 - - e
	evict 2 - - e
	drop 2 - - e`)

func entries(text string) []entry {
	var list []entry
	for line := range strings.Lines(strings.TrimSpace(text)) {
		f := strings.Fields(strings.ReplaceAll(line, " -", " ."))
		n, _ := strconv.Atoi(f[1])
		list = append(list, entry{f[0], n, strings.Trim(f[2], "."), strings.Trim(f[3], "."), f[4]})
	}
	return list
}

func opOf(name string) int {
	for op, e := range table {
		if e.name == name {
			return op
		}
	}
	panic(name)
}

// program has the queues 0 and 2, resident, and 1 and 3, ghosts; two vars, from 0 and from 5 on; two tags, up to 3 and to 255. Its code is told as text, such as "loop 3, T: turn E, bool 1, quit E, again T, E: end": a mark names the place of what comes next. The marks q0 to q3 and miss tell where events begin; the miss's begins at 0, if there is none of these.
func program(text string) api.Program {
	p := api.Program{Ghost: []bool{false, true, false, true}, Vars: []api.Var{{Lo: -3, Hi: 9}, {Init: 5, Lo: -api.MaxNum, Hi: api.MaxNum}}, Tags: []int{3, 255}, On: []int{-1, -1, -1, -1}, Miss: -1}
	marks := map[string]int{}
	var lines [][]string
	for _, line := range strings.Split(text, ",") {
		words := strings.Fields(line)
		for len(words) > 0 && strings.HasSuffix(words[0], ":") {
			marks[strings.TrimSuffix(words[0], ":")] = len(lines)
			words = words[1:]
		}
		if len(words) > 0 {
			lines = append(lines, words)
		}
	}
	for _, words := range lines {
		p.Code = append(p.Code, instr(words, marks))
	}
	begins := false
	for q := range p.On {
		if at, is := marks[fmt.Sprint("q", q)]; is {
			p.On[q], begins = at, true
		}
	}
	if at, is := marks["miss"]; is || !begins {
		p.Miss = at
	}
	return p
}

func instr(words []string, marks map[string]int) api.Instr {
	var n [4]int
	for at, word := range words[1:] {
		place, is := marks[word]
		if !is {
			var err error
			if place, err = strconv.Atoi(word); err != nil {
				panic(word)
			}
		}
		n[at] = place
	}
	return api.Instr{Op: opOf(words[0]), A: n[0], B: n[1], C: n[2], D: n[3]}
}

// tell is how a program is written.
func tell(p api.Program) string {
	var list []string
	for at, i := range p.Code {
		if i.Op < 0 || i.Op >= len(table) {
			list = append(list, fmt.Sprint(at, ": ", i))
			continue
		}
		e := table[i.Op]
		list = append(list, fmt.Sprint(at, ": ", e.name, []int{i.A, i.B, i.C, i.D}[:e.operands]))
	}
	return fmt.Sprint(p.Ghost, " ", len(p.Vars), " ", len(p.Tags), " ", p.On, " ", p.Miss, " ", strings.Join(list, ", "))
}
