package code_test

import (
	"fmt"
	"slices"
	"strings"

	"winnow/api"
)

// table has the instructions of chapter 14 in the order of their numbers, each with the kinds of its operands: a queue, an end, a var, a tag, a number, a bool, rounds, a place.
var table = strings.Split("end|num n|bool b|var v|len q|cap q|size|total|at q|tagx t|tagend q e t|min|max|neg|not|mul|div|add|sub|eq|lt|le|jump p|else p|loop r|turn p|quit p|again p|set v|markx t|markend q e t|insert q e|move q e|forget|take q e|give q e|tell|loose|shift q e q e|spill q e q e|evict q e|drop q e", "|")

// kindsOf are the kinds of an instruction's operands, without those that it has not.
func kindsOf(op int) []string { return strings.Fields(table[op])[1:] }

func numbersOf(i api.Instr) []int { return []int{i.A, i.B, i.C, i.D} }

func between(n, lo, hi int) bool { return lo <= n && n <= hi }

// plainCheck is P1501, sentence by sentence.
func plainCheck(p api.Program) api.Errno {
	if len(p.Ghost) > 16 || len(p.Vars) > 16 || len(p.Tags) > 4 || len(p.On) != len(p.Ghost) || len(p.Code) > 1<<18 {
		return api.ErrProg
	}
	for _, v := range p.Vars {
		for _, n := range []int{v.Init, v.Lo, v.Hi} {
			if !between(n, -1<<30, 1<<30) || !between(n, v.Lo, v.Hi) {
				return api.ErrProg
			}
		}
	}
	for _, n := range p.Tags {
		if !between(n, 1, 255) {
			return api.ErrProg
		}
	}
	for _, at := range append(slices.Clone(p.On), p.Miss) {
		if !between(at, -1, len(p.Code)-1) {
			return api.ErrProg
		}
	}
	for _, i := range p.Code {
		if !between(i.Op, 0, len(table)-1) {
			return api.ErrOp
		}
		if !plainOperands(p, i) {
			return api.ErrOperand
		}
	}
	return api.OK
}

func plainOperands(p api.Program, i api.Instr) bool {
	kinds := kindsOf(i.Op)
	for at, n := range numbersOf(i) {
		lo, hi := 0, 0
		if at < len(kinds) {
			lo, hi = plainBounds(p, kinds[at])
		}
		if !between(n, lo, hi) {
			return false
		}
	}
	return true
}

func plainBounds(p api.Program, kind string) (lo, hi int) {
	switch kind {
	case "q":
		return 0, len(p.Ghost) - 1
	case "v":
		return 0, len(p.Vars) - 1
	case "t":
		return 0, len(p.Tags) - 1
	case "n":
		return -1 << 30, 1 << 30
	case "r":
		return 0, 1 << 22
	case "p":
		return 0, len(p.Code) - 1
	}
	return 0, 1
}

// plainNumber is a number's form: the lowest seven bits, then the form of the rest.
func plainNumber(n int) []byte {
	if n < 128 {
		return []byte{byte(n)}
	}
	return append([]byte{byte(128 + n%128)}, plainNumber(n/128)...)
}

func plainInt(n int) []byte {
	if n < 0 {
		return plainNumber(-2*n - 1)
	}
	return plainNumber(2 * n)
}

// plainEncode is P1502, of a program that may be written.
func plainEncode(p api.Program) []byte {
	b := append([]byte{87}, plainNumber(len(p.Ghost))...)
	for _, ghost := range p.Ghost {
		b = append(b, map[bool]byte{true: 1}[ghost])
	}
	b = append(b, plainNumber(len(p.Vars))...)
	for _, v := range p.Vars {
		b = append(b, slices.Concat(plainInt(v.Init), plainInt(v.Lo), plainInt(v.Hi))...)
	}
	b = append(b, plainNumber(len(p.Tags))...)
	for _, n := range p.Tags {
		b = append(b, plainNumber(n)...)
	}
	for _, at := range append(slices.Clone(p.On), p.Miss) {
		b = append(b, plainNumber(at+1)...)
	}
	b = append(b, plainNumber(len(p.Code))...)
	for _, i := range p.Code {
		b = append(b, plainNumber(i.Op)...)
		for at, kind := range kindsOf(i.Op) {
			if kind == "n" {
				b = append(b, plainInt(numbersOf(i)[at])...)
			} else {
				b = append(b, plainNumber(numbersOf(i)[at])...)
			}
		}
	}
	return b
}

// plainList is P1504, of a program that may be written.
func plainList(p api.Program) string {
	lines := make([]string, len(p.Code))
	for at, i := range p.Code {
		lines[at] = fmt.Sprintf("%d: %s", at, strings.Fields(table[i.Op])[0])
		for o, kind := range kindsOf(i.Op) {
			n := numbersOf(i)[o]
			switch kind {
			case "e":
				lines[at] += []string{" front", " back"}[n]
			case "b":
				lines[at] += []string{" false", " true"}[n]
			case "n", "r":
				lines[at] += fmt.Sprint(" ", n)
			case "p":
				lines[at] += fmt.Sprintf(" @%d", n)
			default:
				lines[at] += fmt.Sprintf(" %s%d", kind, n)
			}
		}
		lines[at] += "\n"
	}
	if p.Miss >= 0 {
		lines[p.Miss] = "miss:\n" + lines[p.Miss]
	}
	for q := len(p.On) - 1; q >= 0; q-- {
		if at := p.On[q]; at >= 0 {
			lines[at] = fmt.Sprintf("on q%d:\n", q) + lines[at]
		}
	}
	return strings.Join(lines, "")
}

// sameProgram tells whether two programs are the same; no list is an empty one.
func sameProgram(a, b api.Program) bool {
	list := func(p api.Program) string {
		return fmt.Sprintf("%v %v %v %v %v %v", p.Ghost, p.Vars, p.Tags, p.On, p.Miss, p.Code)
	}
	return list(a) == list(b)
}
