package code_test

import (
	"bytes"
	"math"
	"math/rand"
	"slices"
	"testing"

	"winnow/api"
	"winnow/code"
)

// maker makes programs by chance.
type maker struct{ *rand.Rand }

func newMaker(seed int64) maker { return maker{rand.New(rand.NewSource(seed))} }

func (m maker) one(list ...int) int { return list[m.Intn(len(list))] }

// few is most often small, and sometimes as many as may be.
func (m maker) few(most int) int {
	if m.Intn(12) == 0 {
		return most
	}
	return m.Intn(min(most, 3) + 1)
}

// number is one of a span, often near its ends, near 0, or where its form is one byte longer.
func (m maker) number(lo, hi int) int {
	n := m.one(lo, hi, lo+1, hi-1, 0, 1, -1, 63, 64, 65, -64, -65, 127, 128, 16383, 16384, lo+m.Intn(hi-lo+1))
	return max(lo, min(n, hi))
}

// program may be written.
func (m maker) program() api.Program {
	var p api.Program
	for range m.few(api.MaxQueues) {
		p.Ghost = append(p.Ghost, m.Intn(2) == 0)
	}
	for range m.few(api.MaxVars) {
		list := []int{m.number(-api.MaxNum, api.MaxNum), m.number(-api.MaxNum, api.MaxNum), m.number(-api.MaxNum, api.MaxNum)}
		slices.Sort(list)
		p.Vars = append(p.Vars, api.Var{Lo: list[0], Init: list[1], Hi: list[2]})
	}
	for range m.few(api.MaxTags) {
		p.Tags = append(p.Tags, m.number(1, 255))
	}
	p.Code = make([]api.Instr, m.one(0, 1, 2, 3, m.Intn(30), m.Intn(300)))
	for range p.Ghost {
		p.On = append(p.On, m.number(-1, len(p.Code)-1))
	}
	p.Miss = m.number(-1, len(p.Code)-1)
	for at := range p.Code {
		p.Code[at] = m.instr(p)
	}
	return p
}

// instr is one that a program may have.
func (m maker) instr(p api.Program) api.Instr {
	for {
		i := api.Instr{Op: m.Intn(len(table))}
		fields := []*int{&i.A, &i.B, &i.C, &i.D}
		all := true
		for at, kind := range kindsOf(i.Op) {
			lo, hi := plainBounds(p, kind)
			if all = all && lo <= hi; all {
				*fields[at] = m.number(lo, hi)
			}
		}
		if all {
			return i
		}
	}
}

// wild is any number.
func (m maker) wild() int {
	return m.one(math.MinInt, math.MaxInt, -1, 0, 1, 2, 3, 255, 256, -api.MaxNum-1, api.MaxNum+1, api.MaxLoop+1, -m.Intn(50), m.Intn(50), int(m.Uint64()))
}

// spoil changes something of a program; it may be right even so.
func (m maker) spoil(p *api.Program) {
	switch m.Intn(8) {
	case 0:
		p.Ghost = append(p.Ghost, true)
	case 1:
		p.On = append(p.On, m.wild())
	case 2:
		p.Vars = append(p.Vars, api.Var{Init: m.wild(), Lo: m.wild(), Hi: m.wild()})
	case 3:
		p.Tags = append(p.Tags, m.wild())
	case 4:
		p.Miss = m.wild()
	case 5:
		if len(p.On) > 0 {
			p.On[m.Intn(len(p.On))] = m.wild()
		}
	default:
		if len(p.Code) > 0 {
			i := &p.Code[m.Intn(len(p.Code))]
			*[]*int{&i.Op, &i.A, &i.B, &i.C, &i.D}[m.Intn(5)] = m.wild()
		}
	}
}

// holds holds all calls against the plain ones.
func holds(t *testing.T, p api.Program) api.Errno {
	t.Helper()
	want := plainCheck(p)
	if want != api.OK {
		mayNot(t, p, want)
	} else {
		mayBe(t, p, plainEncode(p), plainList(p))
	}
	if t.Failed() {
		t.FailNow()
	}
	return want
}

func TestChance(t *testing.T) {
	got := map[api.Errno]int{}
	for seed := range int64(6000) {
		m := newMaker(seed)
		p := m.program()
		if err := holds(t, p); err != api.OK {
			t.Fatalf("%v is spoilt: %v", p, err)
		}
		for range 3 {
			m.spoil(&p)
			got[holds(t, p)]++
		}
	}
	for _, err := range []api.Errno{api.OK, api.ErrProg, api.ErrOp, api.ErrOperand} {
		if got[err] < 200 {
			t.Errorf("%v: %d times", err, got[err])
		}
	}
}

// Every front of a program's bytes is cut, every longer row has a tail.
func TestP1506Fronts(t *testing.T) {
	for seed := range int64(500) {
		b := plainEncode(newMaker(seed).program())
		for n := range b {
			if p, fault := code.Decode(b[:n]); fault != (api.Fault{Err: api.ErrCut, At: n}) || !sameProgram(p, api.Program{}) {
				t.Fatalf("%v: %v", b[:n], fault)
			}
		}
		for _, more := range []byte{0, 1, 87, 128, 255} {
			if _, fault := code.Decode(append(slices.Clone(b), more)); fault != (api.Fault{Err: api.ErrTail, At: len(b)}) {
				t.Fatalf("%v and %d: %v", b, more, fault)
			}
		}
	}
}

// Bytes with one changed, left out, or put in.
func TestP1503Spoilt(t *testing.T) {
	right, got := 0, map[api.Errno]int{}
	for seed := range int64(3000) {
		m := newMaker(seed)
		b := plainEncode(m.program())
		for range 12 {
			at := m.Intn(len(b))
			by := byte(m.one(0, 1, 2, 16, 41, 42, 87, 127, 128, 129, 255, m.Intn(256)))
			spoilt := slices.Clone(b)
			switch m.Intn(3) {
			case 0:
				spoilt[at] = by
			case 1:
				spoilt = slices.Delete(spoilt, at, at+1)
			case 2:
				spoilt = slices.Insert(spoilt, at, by)
			}
			if decodes(t, spoilt) {
				right++
			}
			_, fault := code.Decode(spoilt)
			got[fault.Err]++
		}
	}
	for _, err := range []api.Errno{api.OK, api.ErrCut, api.ErrTag, api.ErrForm, api.ErrProg, api.ErrOp, api.ErrOperand, api.ErrTail} {
		if got[err] < 200 {
			t.Errorf("%v: %d times", err, got[err])
		}
	}
}

// Of a great many programs, many of them nearly alike, unlike ones have unlike bytes, and none begins with another's.
func TestP1506Unlike(t *testing.T) {
	type written struct {
		p api.Program
		b []byte
	}
	var all []written
	for seed := range int64(1500) {
		m := newMaker(seed)
		p := m.program()
		for range 10 {
			if b, err := code.Encode(p); err == api.OK {
				all = append(all, written{code.Twin(p), b})
			}
			q := code.Twin(p)
			m.spoil(&q)
			if plainCheck(q) == api.OK {
				p = q
			}
		}
	}
	slices.SortFunc(all, func(x, y written) int { return bytes.Compare(x.b, y.b) })
	alike := 0
	for n := 1; n < len(all); n++ {
		x, y := all[n-1], all[n]
		switch {
		case sameProgram(x.p, y.p) != bytes.Equal(x.b, y.b):
			t.Fatalf("%v, %v: %v, %v", x.p, y.p, x.b, y.b)
		case bytes.Equal(x.b, y.b):
			alike++
		case bytes.HasPrefix(y.b, x.b):
			t.Fatalf("%v is the front of %v", x.b, y.b)
		}
	}
	if alike == 0 || len(all)-alike < 2000 {
		t.Errorf("%d programs, %d alike", len(all), alike)
	}
}

// Any data, in any order of wildness (P1).
func TestP1AnyProgram(t *testing.T) {
	for seed := range int64(4000) {
		m := newMaker(seed)
		p := api.Program{Ghost: make([]bool, m.Intn(20)), Vars: make([]api.Var, m.Intn(20)), Tags: make([]int, m.Intn(7)), On: make([]int, m.Intn(20)), Miss: m.wild(), Code: make([]api.Instr, m.Intn(20))}
		for i := range p.Vars {
			p.Vars[i] = api.Var{Init: m.wild(), Lo: m.wild(), Hi: m.wild()}
		}
		for i := range p.Tags {
			p.Tags[i] = m.wild()
		}
		for i := range p.On {
			p.On[i] = m.wild()
		}
		for i := range p.Code {
			p.Code[i] = api.Instr{Op: m.wild(), A: m.wild(), B: m.wild(), C: m.wild(), D: m.wild()}
		}
		holds(t, p)
		q := code.Twin(p)
		if !code.Same(p, q) || !sameProgram(p, q) {
			t.Fatalf("Twin of %v: %v", p, q)
		}
	}
}

func TestP1AnyBytes(t *testing.T) {
	for seed := range int64(20000) {
		m := newMaker(seed)
		b := make([]byte, m.Intn(60))
		for i := range b {
			b[i] = byte(m.one(0, 0, 1, 2, 127, 128, 255, m.Intn(50), m.Intn(256)))
		}
		decodes(t, b)
		if len(b) > 0 {
			b[0] = 87
			decodes(t, b)
		}
	}
}
