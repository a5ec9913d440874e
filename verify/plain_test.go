package verify_test

import (
	"math/big"
	"slices"
	"strings"
	"testing"

	"winnow/api"
	"winnow/code"
	"winnow/verify"
)

// standing is the chapter's: the operands' types, n or b, the top last; the open loops, three bytes each, the innermost last; the hand, by its letter.
type standing struct {
	operands, loops string
	hand            byte
}

var freshly = standing{hand: 'e'}

func loop(turn int) string { return string([]byte{byte(turn >> 16), byte(turn >> 8), byte(turn)}) }

// innermost is the place of the innermost loop's ITurn; -1, if none is open.
func (s standing) innermost() int {
	if s.loops == "" {
		return -1
	}
	l := s.loops[len(s.loops)-3:]
	return int(l[0])<<16 | int(l[1])<<8 | int(l[2])
}

func (s standing) within(turn int) standing {
	s.loops += loop(turn)
	return s
}

func (s standing) without() standing {
	s.loops = s.loops[:len(s.loops)-3]
	return s
}

// way is a place at which an instruction goes on.
type way struct {
	at int
	standing
}

// plain reads P1601 sentence by sentence, of a program that may be written.
type plain struct {
	p   api.Program
	got map[int]standing
}

func newPlain(p api.Program) *plain {
	v := &plain{p, map[int]standing{}}
	for _, at := range v.begins() {
		v.got[at] = freshly
	}
	return v
}

// begins are the places at which events begin.
func (v *plain) begins() []int {
	return slices.DeleteFunc(append(slices.Clone(v.p.On), v.p.Miss), func(at int) bool { return at == -1 })
}

// op is the name of the instruction at a place, or nothing, where there is none.
func (v *plain) op(at int) string {
	if at < 0 || at >= len(v.p.Code) {
		return ""
	}
	return table[v.p.Code[at].Op].name
}

// look tells the fault at a place, or gives standings.
func (v *plain) look(at int) api.Errno {
	s, is := v.got[at]
	i := v.p.Code[at]
	e := table[i.Op]
	switch {
	case !is:
		return api.ErrDead
	case !strings.Contains(v.hands(i), string(s.hand)):
		return api.ErrHand
	case len(s.operands) < len(e.takes), e.name == "end" && s.operands != "", len(s.operands)-len(e.takes)+len(e.gives) > 256:
		return api.ErrStack
	}
	top := s.operands[len(s.operands)-len(e.takes):]
	switch {
	case e.takes == "==" && top != "nn" && top != "bb", e.takes != "==" && top != e.takes:
		return api.ErrMix
	case v.wrongQueues(i):
		return api.ErrOperand
	case v.wrongJump(at):
		return api.ErrJump
	}
	for _, w := range v.ways(at) {
		if w.at == len(v.p.Code) {
			return api.ErrEnd
		}
	}
	for _, w := range v.ways(at) {
		if got, is := v.got[w.at]; is && got != w.standing {
			return api.ErrMix
		}
		v.got[w.at] = w.standing
	}
	return api.OK
}

func (v *plain) hands(i api.Instr) string {
	hands := table[i.Op].hands
	if hands == "?" {
		return map[bool]string{false: "h", true: "gt"}[v.p.Ghost[i.A]]
	}
	return hands
}

func (v *plain) wrongQueues(i api.Instr) bool {
	kinds := ""
	for _, q := range []int{i.A, i.C} {
		if q >= 0 && q < len(v.p.Ghost) {
			kinds += map[bool]string{false: "r", true: "g"}[v.p.Ghost[q]]
		}
	}
	switch table[i.Op].name {
	case "move", "evict":
		return kinds[:1] != "r"
	case "drop":
		return kinds[:1] != "g"
	case "shift":
		return kinds != "rr" && kinds != "gg"
	case "spill":
		return kinds != "rg"
	}
	return false
}

func (v *plain) wrongJump(at int) bool {
	s, a := v.got[at], v.p.Code[at].A
	turn := s.innermost()
	switch v.op(at) {
	case "jump", "else", "turn", "quit":
		if a <= at || v.op(a) == "turn" {
			return true
		}
	}
	switch v.op(at) {
	case "turn":
		return v.op(at-1) != "loop" || slices.Contains(v.begins(), at)
	case "loop":
		return v.op(at+1) != "turn"
	case "quit":
		return turn == -1 || a != v.p.Code[turn].A
	case "again":
		return turn == -1 || a != turn || s.operands != v.got[turn].operands || s.without().loops != v.got[turn].loops
	case "end":
		return s.loops != ""
	}
	return false
}

func (v *plain) ways(at int) []way {
	s, i := v.got[at], v.p.Code[at]
	e := table[i.Op]
	s.operands = s.operands[:len(s.operands)-len(e.takes)] + e.gives
	switch e.name {
	case "take":
		s.hand = map[bool]byte{false: 'h', true: 'g'}[v.p.Ghost[i.A]]
	case "tell":
		s.hand = 't'
	case "give", "loose":
		s.hand = 'e'
	case "end", "again":
		return nil
	case "jump":
		return []way{{i.A, s}}
	case "else":
		return []way{{at + 1, s}, {i.A, s}}
	case "turn":
		return []way{{at + 1, s.within(at)}, {i.A, s}}
	case "quit":
		return []way{{at + 1, s}, {i.A, s.without()}}
	}
	return []way{{at + 1, s}}
}

// fuel is P1602 of a place, in whole numbers of any size.
func (v *plain) fuel(at int, known map[int]*big.Int) *big.Int {
	if n := known[at]; n != nil {
		return n
	}
	n := big.NewInt(1)
	next := func(at int) *big.Int { return v.fuel(at, known) }
	i := v.p.Code[at]
	switch v.op(at) {
	case "end", "again":
	case "jump":
		n.Add(n, next(i.A))
	case "else":
		greater := next(at + 1)
		if other := next(i.A); other.Cmp(greater) > 0 {
			greater = other
		}
		n.Add(n, greater)
	case "loop":
		round := new(big.Int).Add(big.NewInt(1), next(at+2))
		n.Add(n, round.Mul(round, big.NewInt(int64(i.A))))
		n.Add(n, big.NewInt(1))
		n.Add(n, next(v.p.Code[at+1].A))
	default:
		n.Add(n, next(at+1))
	}
	if most := new(big.Int).Lsh(big.NewInt(1), 62); n.Cmp(most) > 0 {
		n = most
	}
	known[at] = n
	return n
}

// judged is what Run and Heights are to answer.
type judged struct {
	costs   api.Costs
	heights []int
	fault   api.Fault
}

func plainly(p api.Program) judged {
	if err := code.Check(p); err != api.OK {
		return judged{fault: api.Fault{Err: err}}
	}
	v := newPlain(p)
	j := judged{}
	for at := range p.Code {
		if err := v.look(at); err != api.OK {
			return judged{fault: api.Fault{Err: err, At: at}}
		}
		j.heights = append(j.heights, len(v.got[at].operands))
	}
	known := map[int]*big.Int{}
	for _, at := range append(slices.Clone(p.On), p.Miss) {
		n := big.NewInt(0)
		if at >= 0 {
			n = v.fuel(at, known)
		}
		if n.Cmp(big.NewInt(1<<60)) > 0 {
			return judged{fault: api.Fault{Err: api.ErrFuel, At: at}}
		}
		j.costs.On = append(j.costs.On, int(n.Int64()))
	}
	last := len(p.On)
	j.costs.Miss, j.costs.On = j.costs.On[last], j.costs.On[:last]
	return j
}

func sameCosts(a, b api.Costs) bool { return slices.Equal(a.On, b.On) && a.Miss == b.Miss }

// answers is what Run and Heights answer.
func answers(t *testing.T, p api.Program) judged {
	t.Helper()
	costs, fault := verify.Run(p)
	heights, other := verify.Heights(p)
	if fault != other {
		t.Fatalf("%s\nRun: %v, Heights: %v", tell(p), fault, other)
	}
	return judged{costs, heights, fault}
}

// want holds what is answered against what is to be.
func want(t *testing.T, p api.Program, j judged) {
	t.Helper()
	if got := answers(t, p); got.fault != j.fault || !sameCosts(got.costs, j.costs) || !slices.Equal(got.heights, j.heights) {
		t.Fatalf("%s\n%v; want %v", tell(p), got, j)
	}
}

// holds wants what the plain reading tells.
func holds(t *testing.T, p api.Program) judged {
	t.Helper()
	j := plainly(p)
	want(t, p, j)
	return j
}
