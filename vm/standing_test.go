package vm_test

import (
	"strings"

	"winnow/api"
)

// standing is chapter 16's: the operands' types, n or b, the top last; the open loops, three bytes each, the innermost last; the hand, by its letter.
type standing struct {
	operands, loops string
	hand            byte
}

var freshly = standing{hand: 'e'}

// innermost is the place of the innermost loop's ITurn; -1, if none is open.
func (s standing) innermost() int {
	if s.loops == "" {
		return -1
	}
	l := s.loops[len(s.loops)-3:]
	return int(l[0])<<16 | int(l[1])<<8 | int(l[2])
}

// behind is the standing with which an instruction goes on at the next place.
func (s standing) behind(p api.Program, at int) standing {
	i := p.Code[at]
	e := table[i.Op]
	s.operands = s.operands[:len(s.operands)-len(e.takes)] + e.gives
	switch e.name {
	case "take":
		s.hand = map[bool]byte{false: 'h', true: 'g'}[p.Ghost[i.A]]
	case "tell":
		s.hand = 't'
	case "give", "loose":
		s.hand = 'e'
	case "turn":
		s.loops += string([]byte{byte(at >> 16), byte(at >> 8), byte(at)})
	}
	return s
}

// mayBring tells whether the hand and the queues are as an instruction asks.
func (s standing) mayBring(p api.Program, i api.Instr) bool {
	e := table[i.Op]
	hands, kinds := e.hands, ""
	if hands == "?" {
		hands = map[bool]string{false: "h", true: "gt"}[p.Ghost[i.A]]
	}
	for _, q := range []int{i.A, i.C} {
		if q >= 0 && q < len(p.Ghost) {
			kinds += map[bool]string{false: "r", true: "g"}[p.Ghost[q]]
		}
	}
	switch e.name {
	case "move", "evict":
		kinds = strings.TrimPrefix(kinds[:1], "r")
	case "drop":
		kinds = strings.TrimPrefix(kinds[:1], "g")
	case "shift":
		kinds = strings.NewReplacer("rr", "", "gg", "").Replace(kinds)
	case "spill":
		kinds = strings.TrimPrefix(kinds, "rg")
	default:
		kinds = ""
	}
	return kinds == "" && strings.IndexByte(hands, s.hand) >= 0
}

// isLoops tells whether it is one of a loop's instructions.
func isLoops(name string) bool {
	return name == "loop" || name == "turn" || name == "quit" || name == "again"
}
