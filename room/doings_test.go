package room_test

import (
	"slices"
	"testing"

	"winnow/api"
	"winnow/room"
	"winnow/typed"
)

func TestP903Set(t *testing.T) {
	wantPasses(t, "on miss { set v = len(a); pass; set v = v * 2 + 1; pass; set v = v - 20; pass; }", "v 0..4, x nowhere", "v 1..9, x nowhere", "v -5..-5, x nowhere")
	wantPasses(t, "on miss { set v = len(a) + 20; pass; set v = -v; pass; set v = 3; pass; }", "v 9..9, x nowhere", "v -5..-5, x nowhere", "v 3..3, x nowhere")
	wantPasses(t, "on hit a { set v = t(x); pass; set v = total - size / 2; pass; set v = min(v, cap(a)) / max(len(b), 1); pass; }", "a 1..4, total 1..6, v 0..3, x a", "a 1..4, total 1..6, v -2..3, x a", "a 1..4, total 1..6, v -2..3, x a")
	wantFault(t, "on miss { set v = 1 + t(back(a)); }", api.ErrEmpty, api.NEndOf, 0)
	wantFault(t, "on miss { set v = min(t(x), t(back(a))); }", api.ErrWhere, api.NX, 0)
}

func TestP903Mark(t *testing.T) {
	wantPasses(t, "on hit a { mark x t = 9; pass; mark back(a) t = t(x) + t(front(a)); pass; }", "a 1..4, total 1..6, x a", "a 1..4, total 1..6, x a")
	wantFault(t, "on miss { mark x t = t(back(a)); }", api.ErrWhere, api.NX, 0)
	wantFault(t, "on miss { mark back(a) t = t(x); }", api.ErrEmpty, api.NEndOf, 0)
	wantFault(t, "on hit a { mark x t = t(x) + t(back(b)); }", api.ErrEmpty, api.NEndOf, 0)
	wantFault(t, "on hit a { mark front(a) t = 1; mark front(b) t = 1; }", api.ErrEmpty, api.NEndOf, 1)
	wantFault(t, "on hit a { evict a back; mark x t = 1; }", api.ErrWhere, api.NX, 0)
	wantTaken(t, "on hit a { evict a back; if at(a) { mark x t = t(back(a)); } }")
	wantTaken(t, "on ghost g { mark x t = t(back(g)); }")
}

func TestP903Insert(t *testing.T) {
	wantPasses(t, "on miss { if !full(a) && total < size { insert a front; pass; } }", "a 1..4, total 1..6, x a")
	wantPasses(t, "on miss { if !full(g) { insert g back; pass; } }", "g 1..3, x g")
	wantPasses(t, "on miss { if len(a) < 2 && total < 4 { insert a front; pass; } }", "a 1..2, b 0..3, total 1..4, x a")
	wantFault(t, "on miss { if total < size { insert a front; } }", api.ErrFull, api.NInsert, 0)
	wantFault(t, "on miss { if !full(a) { insert a front; } }", api.ErrFull, api.NInsert, 0)
	wantFault(t, "on miss { insert g front; }", api.ErrFull, api.NInsert, 0)
	wantFault(t, "on hit a { insert a front; }", api.ErrWhere, api.NInsert, 0)
	wantFault(t, "on ghost g { insert h front; }", api.ErrWhere, api.NInsert, 0)
	wantFault(t, "on ghost g { drop g back; if !full(h) { insert h front; } }", api.ErrWhere, api.NInsert, 0)
	wantTaken(t, "on ghost g { drop g back; if !full(h) && !at(g) { insert h front; } }")
	wantFault(t, "on miss { if !full(g) { insert g front; } insert h front; }", api.ErrWhere, api.NInsert, 1)
}

func TestP903Move(t *testing.T) {
	wantPasses(t, "on hit a { move a front; pass; }", "a 1..4, total 1..6, x a")
	wantPasses(t, "on hit a { if !full(b) { move b front; pass; } }", "a 0..3, b 1..5, total 1..6, x b")
	wantPasses(t, "on ghost g { if !full(a) && total < size { move a front; pass; } }", "a 1..4, g 0..2, total 1..6, x a")
	wantFault(t, "on miss { move a front; }", api.ErrWhere, api.NMove, 0)
	wantFault(t, "on hit a { move b front; }", api.ErrFull, api.NMove, 0)
	wantFault(t, "on ghost g { if !full(a) { move a front; } }", api.ErrFull, api.NMove, 0)
	wantFault(t, "on ghost g { if total < size { move a front; } }", api.ErrFull, api.NMove, 0)
	wantFault(t, "on hit a { if !full(b) { shift a back b front; move b front; } }", api.ErrWhere, api.NMove, 0)
	wantTaken(t, "on hit a { if !full(b) { shift a back b front; if at(b) { move b front; } } }")
	wantFault(t, "on hit a { evict a back; move a front; }", api.ErrWhere, api.NMove, 0)
}

func TestP903Forget(t *testing.T) {
	wantPasses(t, "on ghost g { forget; pass; }", "g 0..2, x nowhere")
	wantPasses(t, "on ghost h { if len(h) == 1 { forget; pass; } }", "h 0..0, x nowhere")
	wantFault(t, "on miss { forget; }", api.ErrWhere, api.NForget, 0)
	wantFault(t, "on hit a { forget; }", api.ErrWhere, api.NForget, 0)
	wantFault(t, "on ghost g { drop g back; forget; }", api.ErrWhere, api.NForget, 0)
	wantFault(t, "on ghost g { if !full(h) { shift g back h front; forget; } }", api.ErrWhere, api.NForget, 0)
	wantFault(t, "on ghost g { forget; forget; }", api.ErrWhere, api.NForget, 1)
	wantTaken(t, "on ghost g { if !full(h) { shift g back h front; if at(h) { forget; } else { forget; } } }")
}

func TestP903Shift(t *testing.T) {
	wantPasses(t, "on hit a { shift a back a front; pass; }", "a 1..4, total 1..6, x a")
	wantPasses(t, "on miss { if full(a) && total == size { shift a back a front; pass; } }", "a 4..4, b 2..2, total 6..6, x nowhere")
	wantPasses(t, "on hit a { if !full(b) { shift a back b front; pass; } }", "a 0..3, b 1..5, total 1..6, x a b")
	wantPasses(t, "on hit b { if !empty(a) && !full(b) { shift a back b front; pass; } }", "a 0..3, b 2..5, total 2..6, x b")
	wantPasses(t, "on ghost g { if !full(h) { shift g front h back; pass; } }", "g 0..2, h 1..2, x g h")
	wantPasses(t, "on ghost g { if !full(h) && len(g) == 1 { shift g front h back; pass; } }", "g 0..0, h 1..2, x h")
	wantFault(t, "on miss { shift a back b front; }", api.ErrEmpty, api.NShift, 0)
	wantFault(t, "on miss { shift a back a front; }", api.ErrEmpty, api.NShift, 0)
	wantFault(t, "on hit a { shift a back b front; }", api.ErrFull, api.NShift, 0)
	wantFault(t, "on ghost g { shift g back h front; }", api.ErrFull, api.NShift, 0)
}

func TestP903Evict(t *testing.T) {
	wantPasses(t, "on hit a { evict a back; pass; }", "a 0..3, total 0..5, x nowhere a")
	wantPasses(t, "on hit b { if !empty(a) { evict a back; pass; } }", "a 0..3, b 1..5, total 1..5, x b")
	wantPasses(t, "on hit a { if len(a) == 1 { evict a front; pass; } }", "a 0..0, total 0..5, x nowhere")
	wantPasses(t, "on hit a { if !full(g) { evict a back to g front; pass; } }", "a 0..3, g 1..3, total 0..5, x a g")
	wantPasses(t, "on hit b { if !full(g) && !empty(a) { evict a back to g front; pass; } }", "a 0..3, b 1..5, g 1..3, total 1..5, x b")
	wantFault(t, "on miss { evict a back; }", api.ErrEmpty, api.NEvict, 0)
	wantFault(t, "on miss { evict a back to g front; }", api.ErrEmpty, api.NEvict, 0)
	wantFault(t, "on hit a { evict a back to g front; }", api.ErrFull, api.NEvict, 0)
	wantFault(t, "on hit a { evict a back; evict a back; }", api.ErrEmpty, api.NEvict, 1)
}

func TestP903Drop(t *testing.T) {
	wantPasses(t, "on ghost g { drop g front; pass; }", "g 0..2, x nowhere g")
	wantPasses(t, "on ghost h { if !empty(g) { drop g front; pass; } }", "g 0..2, h 1..2, x h")
	wantPasses(t, "on ghost g { if len(g) < 2 { drop g back; pass; } }", "g 0..0, x nowhere")
	wantFault(t, "on miss { drop g front; }", api.ErrEmpty, api.NDrop, 0)
}

func TestP903Call(t *testing.T) {
	wantFault(t, "rule r { evict a back; } on hit a { call r; call r; }", api.ErrEmpty, api.NEvict, 0)
	wantPasses(t, "rule r { evict a back; pass; } rule s { if len(a) > 2 { call r; } } on miss { call s; pass; }", "a 2..3, b 0..3, total 2..5, x nowhere", "a 0..3, x nowhere")
	wantPasses(t, "rule r { pass; } on hit a { call r; } on miss { if full(a) { call r; call r; } }", "a 1..4, total 1..6, x nowhere a")
	wantTaken(t, "rule r { insert a front; evict b back; mark x t = 1; } on miss { if false { call r; } }")
}

// An expression is judged from the left; the second one of && and || where it may be asked alone.
func TestP903Expressions(t *testing.T) {
	wantFault(t, "on miss { if t(back(a)) == t(x) { } }", api.ErrEmpty, api.NEndOf, 0)
	wantFault(t, "on miss { if t(x) == t(back(a)) { } }", api.ErrWhere, api.NX, 0)
	wantFault(t, "on hit a { if -min(t(x), 1 + t(front(b))) > 1 { } }", api.ErrEmpty, api.NEndOf, 0)
	wantFault(t, "on hit a { if !(t(front(b)) > 1) { } }", api.ErrEmpty, api.NEndOf, 0)
	wantFault(t, "on ghost g { drop g back; if t(x) > 1 { } }", api.ErrWhere, api.NX, 0)
	wantTaken(t, "on hit a { if !full(b) { shift a back b front; if t(x) > 1 { } } }")

	wantTaken(t, "on miss { if !empty(a) && t(back(a)) > 0 { } }")
	wantTaken(t, "on miss { if empty(a) || t(back(a)) > 0 { } }")
	wantTaken(t, "on miss { if !(empty(a) || full(b)) && t(front(a)) > 0 { } }")
	wantFault(t, "on miss { if empty(a) && t(back(a)) > 0 { } }", api.ErrEmpty, api.NEndOf, 0)
	wantFault(t, "on miss { if full(a) || t(back(a)) > 0 { } }", api.ErrEmpty, api.NEndOf, 0)
	wantFault(t, "on miss { if t(back(a)) > 0 && !empty(a) { } }", api.ErrEmpty, api.NEndOf, 0)
	wantTaken(t, "on miss { if false && t(x) > 0 { } if true || t(x) > 0 { } if at(a) && t(x) > 0 { } }")
	wantFault(t, "on miss { if true && t(x) > 0 { } }", api.ErrWhere, api.NX, 0)
	wantFault(t, "on miss { if false || t(x) > 0 { } }", api.ErrWhere, api.NX, 0)
	wantTaken(t, "on miss { if false && t(x) > 0 && t(x) > 1 || full(a) && t(back(a)) == 1 { } }")
	wantFault(t, "on miss { if false && t(x) > 0 || t(back(a)) == 1 { } }", api.ErrEmpty, api.NEndOf, 0)

	wantFault(t, "on miss { if (t(x) > 0) == (t(back(a)) > 0) { } }", api.ErrWhere, api.NX, 0)
	wantFault(t, "on miss { if true != (t(back(a)) > 0) { } }", api.ErrEmpty, api.NEndOf, 0)
	wantFault(t, "on miss { if empty(a) == (t(back(a)) > 0) { } }", api.ErrEmpty, api.NEndOf, 0)
	wantTaken(t, "on miss { if (empty(a) || t(back(a)) > 0) == (full(a) && t(front(a)) > 1) { } }")
}

func TestP903Loop(t *testing.T) {
	wantPasses(t, "on miss { loop 0 while t(x) > 0 { insert a front; pass; } pass; }", "-", "x nowhere")
	wantPasses(t, "on miss { loop size - 6 while t(x) > 0 { evict a front; } pass; }", "x nowhere")
	for _, c := range []struct {
		inner string
		kind  int
		nth   int
	}{
		{"on miss { loop 1 while true { insert a front; } }", api.NInsert, 0},
		{"on hit a { loop 1 while true { move a front; } }", api.NMove, 0},
		{"on ghost g { loop 1 while true { forget; } }", api.NForget, 0},
		{"on miss { loop 1 while t(x) > 0 { pass; evict a back; if false { { insert a front; } } forget; } }", api.NInsert, 0},
		{"on miss { loop 1 while false { loop 0 while true { forget; insert a front; } } }", api.NForget, 0},
		{"rule r { forget; } on miss { loop 1 while true { call r; insert a front; } }", api.NForget, 0},
		{"rule r { forget; } on miss { loop 1 while true { insert a front; call r; } }", api.NInsert, 0},
		{"rule q { pass; move a front; insert a back; } rule r { loop 2 while true { call q; } forget; } on miss { loop 1 while true { call r; } }", api.NMove, 0},
		{"on miss { if len(g) < 3 { insert g front; } loop 1 while true { if true { } else { insert h front; } } }", api.NInsert, 1},
	} {
		wantFault(t, c.inner, api.ErrLoop, c.kind, c.nth)
	}
	wantTaken(t, "rule r { loop 1 while true { insert a front; } } on miss { loop 0 while true { call r; } if false { call r; } }")
}

// What a loop's block may change is unknown behind it, all else is as it was.
func TestP903LoopChanges(t *testing.T) {
	for _, c := range []struct{ guard, doings, want string }{
		{"len(a) == 3 && v == 2", "loop 2 while true { mark back(a) t = 1; shift a back a front; }", "a 3..3, b 0..3, total 3..6, v 2..2, x nowhere"},
		{"v == 2", "loop 3 while true { set v = v; }", "x nowhere"},
		{"v == 2", "loop 3 while false { if false { set v = 1; } }", "x nowhere"},
		{"len(a) == 3 && len(b) == 1", "loop 2 while !empty(a) && !full(b) { shift a back b front; }", "b 0..4, total 4..4, x nowhere"},
		{"len(a) == 3 && len(b) == 1", "loop 2 while !empty(a) { evict a back; }", "a 0..3, b 1..1, total 1..4, x nowhere"},
		{"len(a) == 3 && len(g) == 1", "loop 1 while !empty(a) && !full(g) { evict a back to g front; }", "b 0..3, x nowhere"},
		{"len(g) == 2 && total == 3", "loop 2 while !empty(g) { drop g back; }", "a 0..3, b 0..3, total 3..3, x nowhere"},
		{"len(g) == 2 && len(h) == 1", "loop 2 while len(g) > 0 { if !full(h) { shift g back h front; } }", "x nowhere"},
		{"len(g) == 2 && len(h) == 1", "loop 2 while len(g) > 0 { shift g back g front; }", "g 2..2, h 1..1, x nowhere"},
		{"v == 2 && len(a) == 3 && len(b) == 2", "loop 2 while true { call change; }", "a 3..3, b 0..2, total 3..5, x nowhere"},
		{"v == 2 && len(a) == 3", "loop 2 while true { loop 1 while v == 7 { loop 0 while true { call change; } } }", "a 3..3, b 0..3, total 3..6, x nowhere"},
	} {
		rules := "rule first { if !empty(b) { evict b front; } } rule change { set v = 3; call first; } "
		p, facts, fault := judged(t, things+rules+"on miss { if "+c.guard+" { "+c.doings+" pass; } } }", usual())
		if fault != (api.Fault{}) {
			t.Errorf("%s: %v", c.doings, fault)
			continue
		}
		if got := tellFrom(p, facts[row(t, p, api.NPass, 0)], unknown()); got != c.want {
			t.Errorf("%s: %s; want %s", c.doings, got, c.want)
		}
	}
}

func TestP903LoopPlaces(t *testing.T) {
	for _, c := range []struct{ event, doings, want string }{
		{"hit a", "if !empty(g) { drop g back; } if !empty(b) && !full(g) { evict b back to g front; } if !empty(a) && !full(b) { shift a back b front; }", "x nowhere a b g"},
		{"hit a", "if !empty(b) && !full(g) { evict b back to g front; } if !empty(a) && !full(b) { shift a back b front; }", "x a b g"},
		{"hit a", "if !empty(b) { evict b back; } if !empty(a) && !full(b) { shift a back b front; }", "x nowhere a b"},
		{"hit b", "if !empty(a) && !full(b) { shift a back b front; }", "x b"},
		{"hit b", "if !empty(a) { evict a back; }", "x b"},
		{"hit b", "if !empty(a) { evict a back; } if !full(a) && !empty(b) { shift b back a front; }", "x nowhere a b"},
		{"ghost g", "if !empty(h) { drop h back; } if false { shift g back h front; }", "x nowhere g h"},
		{"ghost g", "if !empty(h) { drop h back; }", "x g"},
		{"miss", "if !empty(h) { drop h back; } if false { shift g back h front; }", "x nowhere"},
	} {
		p, facts, fault := judged(t, things+"on "+c.event+" { loop 3 while true { "+c.doings+" } pass; } }", usual())
		if fault != (api.Fault{}) {
			t.Errorf("%s: %v", c.doings, fault)
			continue
		}
		f := facts[row(t, p, api.NPass, 0)]
		if got := tellFrom(p, f, f); got != c.want {
			t.Errorf("%s: %s; want %s", c.doings, got, c.want)
		}
	}
}

// What a loop asks is judged in the view of any round, its block where that is true; behind it any number of rounds may have been.
func TestP903LoopViews(t *testing.T) {
	wantFault(t, "on miss { if !empty(b) { loop 3 while t(back(b)) == 0 { evict b back; } } }", api.ErrEmpty, api.NEndOf, 0)
	wantFault(t, "on hit a { loop 3 while t(x) > 0 { evict a back; } }", api.ErrWhere, api.NX, 0)
	wantTaken(t, "on hit a { loop 3 while at(a) && t(x) > 0 { evict a back; } }")
	wantTaken(t, "on miss { loop 3 while len(a) > 0 { evict a back; } }")
	wantFault(t, "on miss { loop 3 while len(a) > 0 { evict a back; } evict a back; }", api.ErrEmpty, api.NEvict, 1)
	wantFault(t, "on miss { loop 3 while len(a) > 0 { evict a back; evict a back; } }", api.ErrEmpty, api.NEvict, 1)
	wantPasses(t, "on miss { loop 3 while len(a) > 2 { pass; evict a back; pass; } pass; }", "a 3..4, b 0..3, total 3..6, x nowhere", "a 2..3, b 0..3, total 2..5, x nowhere", "x nowhere")
	wantPasses(t, "on miss { loop 3 while v > 2 { pass; set v = 1; pass; } pass; }", "v 3..9, x nowhere", "v 1..1, x nowhere", "x nowhere")
	wantPasses(t, "on miss { loop 3 while v > 9 { pass; evict a back; } pass; }", "-", "x nowhere")
	wantPasses(t, "on miss { if v == 1 { loop 3 while v == 2 { pass; } pass; } }", "-", "v 1..1, x nowhere")
}

// Of the events the first fault is told, in the order in which they stand; of rules that are never called none.
func TestP903FirstFault(t *testing.T) {
	wantFault(t, "on miss { evict a back; } on hit a { insert a front; }", api.ErrEmpty, api.NEvict, 0)
	wantFault(t, "on hit a { insert a front; } on miss { evict a back; }", api.ErrWhere, api.NInsert, 0)
	wantFault(t, "on miss { pass; } on ghost h { drop h back; drop h back; }", api.ErrEmpty, api.NDrop, 1)
	wantFault(t, "on miss { if full(a) { insert h front; } else { drop g back; } forget; }", api.ErrFull, api.NInsert, 0)
	wantFault(t, "on miss { if full(a) { } else { drop g back; } forget; }", api.ErrEmpty, api.NDrop, 0)
	wantFault(t, "rule r { drop g back; } on miss { forget; call r; }", api.ErrWhere, api.NForget, 0)
	wantFault(t, "rule r { drop g back; } on miss { call r; forget; }", api.ErrEmpty, api.NDrop, 0)
	wantFault(t, "on miss { loop 2 while t(x) > 0 { drop g back; } forget; }", api.ErrWhere, api.NX, 0)
	wantFault(t, "on miss { loop 2 while true { drop g back; } forget; }", api.ErrEmpty, api.NDrop, 0)
	wantFault(t, "on miss { mark x t = 1; forget; }", api.ErrWhere, api.NX, 0)
	wantFault(t, "on miss { if (t(x) > 1) == true { drop g back; } }", api.ErrWhere, api.NX, 0)
	wantTaken(t, "rule r { drop g back; forget; } on miss { }")
}

// Facts are told of doings that were come to alone, one for each row.
func TestP903Facts(t *testing.T) {
	text := things + `rule never { evict a back to g front; } rule r { if v > 3 { set v = 1; } else { pass; } }
		on hit a { call r; if !full(g) { evict a back to g back; } if !full(h) { { loop 2 while false { mark back(a) t = 1; } } } }
		on ghost g { forget; loop 0 while true { evict b front; } call r; if false { call never; drop h back; } else if true { pass; } }
		on hit b { move b front; if !empty(g) && !full(h) { shift g front h back; } }
		on miss { if !full(h) { insert h back; } if v == 10 { pass; } } }`
	p, facts, fault := judged(t, text, usual())
	if fault != (api.Fault{}) || len(facts) != len(p.Rows) {
		t.Fatalf("%v, %d facts", fault, len(facts))
	}
	reached := map[int]int{}
	for at, f := range facts {
		if !f.Reached {
			if len(f.Lens)+len(f.Vars)+len(f.At) > 0 || f.Total != (api.Span{}) || f.Nowhere {
				t.Errorf("row %d: %v", at, f)
			}
			continue
		}
		reached[p.Rows[at].Kind]++
		if len(f.Lens) != 4 || len(f.Vars) != 1 || len(f.At) != 4 {
			t.Errorf("row %d: %v", at, f)
		}
	}
	want := map[int]int{api.NIf: 8, api.NSet: 1, api.NPass: 2, api.NCall: 2, api.NEvict: 1, api.NLoop: 2, api.NForget: 1, api.NMove: 1, api.NShift: 1, api.NInsert: 1}
	for kind := range api.NCount {
		if reached[kind] != want[kind] {
			t.Errorf("%d rows of kind %d; want %d", reached[kind], kind, want[kind])
		}
	}
	for _, c := range []struct {
		kind, nth int
		want      string
	}{
		{api.NIf, 0, "x nowhere a"}, {api.NSet, 0, "v 4..9, x nowhere a"}, {api.NPass, 0, "v -5..3, x nowhere a"},
		{api.NCall, 0, "a 1..4, total 1..6, x a"}, {api.NCall, 1, "g 0..2, x nowhere"}, {api.NLoop, 1, "g 0..2, x nowhere"},
		{api.NForget, 0, "g 1..3, x g"}, {api.NMove, 0, "b 1..5, total 1..6, x b"}, {api.NEvict, 2, "-"}, {api.NDrop, 0, "-"}, {api.NMark, 0, "-"},
	} {
		if got := tellFrom(p, facts[row(t, p, c.kind, c.nth)], unknown()); got != c.want {
			t.Errorf("kind %d, %d: %s; want %s", c.kind, c.nth, got, c.want)
		}
	}
}

// Rounds of rows that are no loops say nothing.
func TestP903RoundsOfOthers(t *testing.T) {
	p := whole(t, things+"on miss { if !empty(a) { loop 1 while true { pass; } evict a back; } } }")
	u, _ := typed.Check(p, usual())
	want, _ := room.Judge(p, u, usual())
	for at := range u.Rounds {
		if p.Rows[at].Kind != api.NLoop {
			u.Rounds[at] = at % 7
		}
	}
	if got, fault := room.Judge(p, u, usual()); fault != (api.Fault{}) || !sameFacts(got, want) {
		t.Errorf("%v\n%s\nwant\n%s", fault, tellAll(p, got), tellAll(p, want))
	}
	u.Rounds = slices.Repeat([]int{0}, len(p.Rows))
	if got, fault := room.Judge(p, u, usual()); fault != (api.Fault{}) || got[row(t, p, api.NPass, 0)].Reached {
		t.Errorf("no rounds: %v\n%s", fault, tellAll(p, got))
	}
}
