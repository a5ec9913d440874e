package gen_test

import (
	"fmt"
	"slices"
	"strings"

	"winnow/api"
)

// standing is chapter 16's: the operands' types (n or b), the open loops by the places of their ITurns, the hand (empty "", "ghost", "held", "told").
type standing struct {
	operands string
	loops    []int
	hand     string
}

func (s standing) text() string { return fmt.Sprint(s.operands, s.loops, s.hand) }

// takes and gives are what the chapter's table has of operands; IEq takes two of one type.
func takes(op int) string {
	switch {
	case op >= api.IMin && op <= api.IMax, op >= api.IMul && op <= api.ISub, op == api.ILt, op == api.ILe:
		return "nn"
	case op == api.INeg, op == api.ISet, op == api.IMarkX, op == api.IMarkEnd:
		return "n"
	case op == api.INot, op == api.IElse, op == api.IQuit:
		return "b"
	}
	return ""
}

func gives(op int) string {
	switch {
	case op == api.IBool, op == api.IAt, op == api.INot, op == api.IEq, op == api.ILt, op == api.ILe:
		return "b"
	case op >= api.INum && op <= api.ISub:
		return "n"
	}
	return ""
}

// verifier goes through a program as P1601 says.
type verifier struct {
	p   api.Program
	got []*standing
	at  int
}

// way is a place at which an instruction goes on.
type way struct {
	to int
	standing
}

// verified is P1601 read plainly, of a program that may be written: each event's fuel, the miss's last, or why it is not taken.
func verified(p api.Program) (fuel []int, fault string) {
	v := &verifier{p: p, got: make([]*standing, len(p.Code))}
	for _, begin := range append(slices.Clone(p.On), p.Miss) {
		if begin >= 0 {
			v.got[begin] = &standing{}
		}
	}
	for v.at = range p.Code {
		if fault := v.look(); fault != "" {
			return nil, fmt.Sprint(fault, " at ", v.at, ": ", tellCode(p.Code))
		}
	}
	costs := v.fuel()
	for _, begin := range append(slices.Clone(p.On), p.Miss) {
		n := 0
		if begin >= 0 {
			n = costs[begin]
		}
		if n > 1<<60 {
			return nil, fmt.Sprint("fuel at ", begin)
		}
		fuel = append(fuel, n)
	}
	return fuel, ""
}

func (v *verifier) look() (fault string) {
	s, i := v.got[v.at], v.p.Code[v.at]
	if s == nil {
		return "dead"
	}
	hand, is := v.handBehind(*s, i)
	if !is {
		return "hand"
	}
	operands, fault := operandsBehind(s.operands, i.Op)
	if fault != "" {
		return fault
	}
	if !v.mayBring(i) {
		return "operand"
	}
	behind := standing{operands, s.loops, hand}
	if !v.mayGo(*s, behind, i) {
		return "jump"
	}
	for _, w := range v.ways(behind, i) {
		switch {
		case w.to >= len(v.got):
			return "end"
		case v.got[w.to] == nil:
			v.got[w.to] = &w.standing
		case v.got[w.to].text() != w.text():
			return "mix"
		}
	}
	return ""
}

func (v *verifier) kind(q int) string {
	return map[bool]string{true: "ghost", false: "held"}[v.p.Ghost[q]]
}

func (v *verifier) handBehind(s standing, i api.Instr) (hand string, is bool) {
	switch {
	case i.Op == api.ITake:
		return v.kind(i.A), s.hand == ""
	case i.Op == api.ITell:
		return "told", s.hand == "held"
	case i.Op == api.ILoose:
		return "", s.hand == "ghost" || s.hand == "told"
	case i.Op == api.IGive && v.p.Ghost[i.A]:
		return "", s.hand == "ghost" || s.hand == "told"
	case i.Op == api.IGive:
		return "", s.hand == "held"
	case i.Op >= api.INum && i.Op <= api.ILe, i.Op >= api.ISet && i.Op <= api.IMarkEnd:
		return s.hand, true
	}
	return s.hand, s.hand == ""
}

func operandsBehind(s string, op int) (behind, fault string) {
	want := takes(op)
	if op == api.IEq {
		want = "nn"
		if strings.HasSuffix(s, "bb") {
			want = "bb"
		}
	}
	switch {
	case len(s) < len(want), op == api.IEnd && s != "":
		return "", "stack"
	case !strings.HasSuffix(s, want):
		return "", "mix"
	}
	behind = strings.TrimSuffix(s, want) + gives(op)
	if len(behind) > 256 {
		return "", "stack"
	}
	return behind, ""
}

func (v *verifier) mayBring(i api.Instr) bool {
	switch i.Op {
	case api.IMove, api.IEvict:
		return !v.p.Ghost[i.A]
	case api.IDrop:
		return v.p.Ghost[i.A]
	case api.IShift:
		return v.p.Ghost[i.A] == v.p.Ghost[i.C]
	case api.ISpill:
		return !v.p.Ghost[i.A] && v.p.Ghost[i.C]
	}
	return true
}

// op is -1 where there is no place.
func (v *verifier) op(at int) int {
	if at < 0 || at >= len(v.p.Code) {
		return -1
	}
	return v.p.Code[at].Op
}

func (v *verifier) mayGo(s, behind standing, i api.Instr) bool {
	inner, turn := len(s.loops)-1, -1
	if inner >= 0 {
		turn = s.loops[inner]
	}
	forward := i.A > v.at && v.op(i.A) != api.ITurn
	switch i.Op {
	case api.IJump, api.IElse:
		return forward
	case api.ITurn:
		return forward && v.op(v.at-1) == api.ILoop && !slices.Contains(append(slices.Clone(v.p.On), v.p.Miss), v.at)
	case api.ILoop:
		return v.op(v.at+1) == api.ITurn
	case api.IQuit:
		return forward && turn >= 0 && i.A == v.p.Code[turn].A
	case api.IAgain:
		return turn >= 0 && i.A == turn && v.got[turn].operands == behind.operands && slices.Equal(v.got[turn].loops, s.loops[:inner])
	case api.IEnd:
		return inner < 0
	}
	return true
}

func (v *verifier) ways(behind standing, i api.Instr) []way {
	next := v.at + 1
	switch i.Op {
	case api.IEnd, api.IAgain:
		return nil
	case api.IJump:
		return []way{{i.A, behind}}
	case api.IElse:
		return []way{{next, behind}, {i.A, behind}}
	case api.ITurn:
		open := behind
		open.loops = append(slices.Clone(behind.loops), v.at)
		return []way{{next, open}, {i.A, behind}}
	case api.IQuit:
		closed := behind
		closed.loops = behind.loops[:len(behind.loops)-1]
		return []way{{next, behind}, {i.A, closed}}
	}
	return []way{{next, behind}}
}

// fuel is P1602 of each place, from the last one on.
func (v *verifier) fuel() []int {
	n := make([]int, len(v.p.Code)+1)
	sum := func(a, b int) int { return min(a+b, 1<<62) }
	for at := len(v.p.Code) - 1; at >= 0; at-- {
		i := v.p.Code[at]
		switch i.Op {
		case api.IEnd, api.IAgain:
			n[at] = 1
		case api.IJump:
			n[at] = sum(1, n[i.A])
		case api.IElse:
			n[at] = sum(1, max(n[at+1], n[i.A]))
		case api.ILoop:
			round, all := sum(1, n[at+2]), 1<<62
			if i.A == 0 || round <= all/i.A {
				all = i.A * round
			}
			n[at] = sum(sum(1, all), sum(1, n[v.p.Code[at+1].A]))
		default:
			n[at] = sum(1, n[at+1])
		}
	}
	return n
}
