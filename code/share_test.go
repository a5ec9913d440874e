package code_test

import (
	"slices"
	"testing"

	"winnow/api"
	"winnow/code"
)

// spare is a list with spare room behind it, in which something stands.
func spare[T any](list []T, last T) []T {
	return append(slices.Clone(list), last, last)[:len(list)]
}

// roomy is a program with spare room behind each list.
func roomy(p api.Program) api.Program {
	p.Ghost, p.Vars, p.Tags = spare(p.Ghost, true), spare(p.Vars, api.Var{Init: -7}), spare(p.Tags, -7)
	p.On, p.Code = spare(p.On, -7), spare(p.Code, api.Instr{Op: -7})
	return p
}

func sameRoom[T comparable](a, b []T) bool { return slices.Equal(a[:cap(a)], b[:cap(b)]) }

// sameProgramRoom tells whether two programs are the same, the spare room of their lists too.
func sameProgramRoom(a, b api.Program) bool {
	return sameRoom(a.Ghost, b.Ghost) && sameRoom(a.Vars, b.Vars) && sameRoom(a.Tags, b.Tags) && sameRoom(a.On, b.On) && a.Miss == b.Miss && sameRoom(a.Code, b.Code)
}

// fill puts something in all of a list, and into its spare room.
func fill[T any](list []T, value T) {
	for i := range list[:cap(list)] {
		list[:cap(list)][i] = value
	}
}

// fillProgram leaves nothing of a program.
func fillProgram(x api.Program) {
	fill(x.Ghost, true)
	fill(x.Vars, api.Var{Init: 1, Lo: 1, Hi: 1})
	fill(x.Tags, 1)
	fill(x.On, -7)
	fill(x.Code, api.Instr{Op: -7})
}

func TestP2NothingIsChanged(t *testing.T) {
	for seed := range int64(300) {
		p, q := roomy(newMaker(seed).program()), roomy(newMaker(seed+1).program())
		wantP, wantQ := roomy(newMaker(seed).program()), roomy(newMaker(seed+1).program())
		b := spare(plainEncode(p), 7)
		wantB := spare(plainEncode(p), 7)
		code.Check(p)
		code.Encode(p)
		code.List(p)
		code.Same(p, q)
		code.Decode(b)
		code.Decode(b[:len(b)/2])
		fillProgram(code.Twin(p))
		if !sameProgramRoom(p, wantP) || !sameProgramRoom(q, wantQ) || !sameRoom(b, wantB) {
			t.Fatalf("%v, %v, %v; they were %v, %v, %v", p, q, b, wantP, wantQ, wantB)
		}
	}
}

// What is told is the caller's own, and what was handed in is not kept.
func TestP2AnswersAreApart(t *testing.T) {
	for seed := range int64(300) {
		p, want := roomy(newMaker(seed).program()), newMaker(seed).program()
		bytes := plainEncode(want)
		b, _ := code.Encode(p)
		other, _ := code.Encode(p)
		fill(other, 7)
		handed := spare(bytes, 7)
		read, _ := code.Decode(handed)
		second, _ := code.Decode(handed)
		twin := code.Twin(p)
		fillProgram(code.Twin(p))
		fillProgram(second)
		if !sameRoom(handed, spare(bytes, 7)) {
			t.Fatalf("%v; they were %v", handed, bytes)
		}
		fill(handed, 7)
		fillProgram(p)
		if !slices.Equal(b, bytes) || !sameProgram(read, want) || !sameProgram(twin, want) {
			t.Fatalf("%v, %v, %v; want %v, %v", b, read, twin, bytes, want)
		}
		apart(t, read, want)
		apart(t, twin, want)
	}
}

// apart tells whether two lists of one program share memory: Tags and On could, of one type.
func apart(t *testing.T, p, want api.Program) {
	t.Helper()
	fill(p.Tags, -7)
	fill(p.Vars, api.Var{})
	if !slices.Equal(p.On, want.On) || !slices.Equal(p.Code, want.Code) || !slices.Equal(p.Ghost, want.Ghost) {
		t.Fatalf("%v: lists share memory", want)
	}
}

func TestP3Again(t *testing.T) {
	for seed := range int64(200) {
		m := newMaker(seed)
		p := m.program()
		if seed%3 == 0 {
			m.spoil(&p)
		}
		b, err := code.Encode(p)
		list, _ := code.List(p)
		read, fault := code.Decode(b)
		for range 3 {
			code.Decode(b[:len(b)/2])
			b2, err2 := code.Encode(p)
			list2, _ := code.List(p)
			read2, fault2 := code.Decode(b)
			if !slices.Equal(b, b2) || err != err2 || list != list2 || !code.Same(read, read2) || fault != fault2 || code.Check(p) != err {
				t.Fatalf("%v: not the same again", p)
			}
		}
	}
}
