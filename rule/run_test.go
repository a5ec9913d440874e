package rule_test

import (
	"fmt"
	"math"
	"slices"
	"strings"
	"testing"

	"winnow/api"
	"winnow/rule"
)

// openText is the machine of what Lower tells of a text.
func openText(t *testing.T, text string, c api.Caps) *rule.Machine {
	t.Helper()
	return open(t, lower(t, text, c), c)
}

// The state in which a doing is tried: a is full, b and h are empty, g has one.
const base = "3 2 1 / / 4 / ; 0 5"

// tried has a doing ready in small parts, and another machine with the same at once (RShift, RSpill, REvict, RDrop).
func tried(t *testing.T, size int, doing string) []*rule.Machine {
	t.Helper()
	c := usual()
	c.Size = size
	p := lower(t, things+"on miss { if total < 3 { insert a front; } else if empty(g) { insert g front; } else { "+doing+" } } on hit a { "+doing+" } on ghost g { "+doing+" } }", c)
	list := []*rule.Machine{open(t, p, c), open(t, shortened(p), c)}
	for _, m := range list {
		for key := range uint64(4) {
			m.Access(key + 1)
		}
		if s := tellState(m.State()); s != base {
			t.Fatal(s)
		}
	}
	return list
}

// wantDone wants what a doing, on an Access of the key, answers, and the state behind it. (A trap leaves the state.)
func wantDone(t *testing.T, size int, doing string, key uint64, want string) {
	t.Helper()
	for _, m := range tried(t, size, doing) {
		stats := m.Stats()
		a := m.Access(key)
		got := tellAnswer(a)
		if s := tellState(m.State()); a.Trap == api.TNone || s != base {
			got += ": " + s
		}
		if got != want {
			t.Errorf("%s, of %d: %s; want %s", doing, key, got, want)
		}
		if a.Trap == api.TNone {
			stats.Evictions += len(a.Evicted)
			if a.Hit {
				stats.Hits++
			} else {
				stats.Misses++
			}
		}
		if m.Stats() != stats {
			t.Errorf("%s, of %d: %v; want %v", doing, key, m.Stats(), stats)
		}
	}
}

// done is a doing, the key that is asked for (2 is in a, 4 in g, 9 nowhere), and what comes of it.
type done struct {
	doing string
	key   uint64
	want  string
}

func wantAll(t *testing.T, size int, list []done) {
	t.Helper()
	for _, d := range list {
		wantDone(t, size, d.doing, d.key, d.want)
	}
}

func TestInsert(t *testing.T) {
	wantAll(t, 4, []done{
		{"insert b front;", 9, "miss: 3 2 1 / 9 / 4 / ; 0 5"}, {"insert b back;", 9, "miss: 3 2 1 / 9 / 4 / ; 0 5"},
		{"insert g front;", 9, "miss: 3 2 1 / / 9 4 / ; 0 5"}, {"insert g back;", 9, "miss: 3 2 1 / / 4 9 / ; 0 5"},
		{"insert a front;", 9, "full"}, {"insert a back;", 9, "full"}, {"evict a back; insert a front;", 9, "miss 1: 9 3 2 / / 4 / ; 0 5"},
		{"evict a front; insert a back;", 9, "miss 3: 2 1 9 / / 4 / ; 0 5"},
		{"insert b front;", 2, "where"}, {"insert a front;", 2, "where"}, {"insert b front;", 4, "where"}, {"insert a front;", 4, "where"}, {"insert g front;", 4, "where"},
		{"insert b front; insert b front;", 9, "where"}, {"insert b front; insert a front;", 9, "where"}, {"insert g front; insert b front;", 9, "where"},
		{"evict a back to h front; insert h front;", 9, "full"},
		{"insert b front; evict b front; insert g front;", 9, "miss 9: 3 2 1 / / 9 4 / ; 0 5"},
		{"forget; insert b front;", 4, "miss: 3 2 1 / 4 / / ; 0 5"}, {"forget; insert a front;", 4, "full"},
		{"insert g front; mark x t = 2; shift g front h back; forget; insert h front;", 9, "miss: 3 2 1 / / 4 / 9 ; 0 5"},
	})
	// Size is reached: a resident queue has no room, a ghost queue has.
	wantAll(t, 3, []done{
		{"insert b front;", 9, "full"}, {"insert b back;", 9, "full"}, {"insert h front;", 9, "miss: 3 2 1 / / 4 / 9 ; 0 5"},
		{"evict a back; insert b front;", 9, "miss 1: 3 2 / 9 / 4 / ; 0 5"}, {"insert b front;", 2, "where"},
	})
}

func TestMove(t *testing.T) {
	wantAll(t, 4, []done{
		{"move a front;", 2, "hit: 2 3 1 / / 4 / ; 0 5"}, {"move a back;", 2, "hit: 3 1 2 / / 4 / ; 0 5"},
		{"move a front;", 3, "hit: 3 2 1 / / 4 / ; 0 5"}, {"move a back;", 3, "hit: 2 1 3 / / 4 / ; 0 5"},
		{"move a front;", 1, "hit: 1 3 2 / / 4 / ; 0 5"}, {"move a back;", 1, "hit: 3 2 1 / / 4 / ; 0 5"},
		{"move b front;", 2, "hit: 3 1 / 2 / 4 / ; 0 5"}, {"move b back; move a front;", 2, "hit: 2 3 1 / / 4 / ; 0 5"},
		{"shift a front b front; move b front;", 1, "hit: 2 / 1 3 / 4 / ; 0 5"}, {"shift a front b front; move b back;", 1, "hit: 2 / 3 1 / 4 / ; 0 5"},
		{"shift a front b front; shift a front b front; move b back;", 1, "full"},
		{"move b front;", 4, "miss: 3 2 1 / 4 / / ; 0 5"}, {"move a front;", 4, "full"}, {"evict a back; move a back;", 4, "miss 1: 3 2 4 / / / ; 0 5"},
		{"move a front;", 9, "where"}, {"move b front;", 9, "where"},
	})
	// x itself counts no more when room is asked for.
	wantAll(t, 3, []done{
		{"move b front;", 2, "hit: 3 1 / 2 / 4 / ; 0 5"}, {"move a front;", 2, "hit: 2 3 1 / / 4 / ; 0 5"}, {"move b front;", 4, "full"},
		{"evict a back; move b front;", 4, "miss 1: 3 2 / 4 / / ; 0 5"}, {"move b front;", 9, "where"},
	})
}

func TestForget(t *testing.T) {
	wantAll(t, 4, []done{
		{"forget;", 4, "miss: 3 2 1 / / / ; 0 5"}, {"forget;", 2, "where"}, {"forget;", 9, "where"}, {"forget; forget;", 4, "where"},
		{"insert h front; forget;", 9, "miss: 3 2 1 / / 4 / ; 0 5"}, {"insert b front; forget;", 9, "where"}, {"move b front; forget;", 4, "where"},
		{"evict a back to g back; forget;", 1, "hit 1: 3 2 / / 4 / ; 0 5"}, {"evict a back to g back; forget;", 4, "miss 1: 3 2 / / 1 / ; 0 5"},
	})
}

func TestShift(t *testing.T) {
	wantAll(t, 4, []done{
		{"shift a back a front;", 9, "miss: 1 3 2 / / 4 / ; 0 5"}, {"shift a front a back;", 9, "miss: 2 1 3 / / 4 / ; 0 5"},
		{"shift a front a front;", 9, "miss: 3 2 1 / / 4 / ; 0 5"}, {"shift a back a back;", 9, "miss: 3 2 1 / / 4 / ; 0 5"},
		{"shift a back b front; shift a back b front;", 9, "miss: 3 / 2 1 / 4 / ; 0 5"}, {"shift a back b back; shift a front b back;", 9, "miss: 2 / 1 3 / 4 / ; 0 5"},
		{"shift a back b front; shift a back b front; shift a back b front;", 9, "full"}, {"shift b back a front;", 9, "empty"}, {"shift b front b front;", 9, "empty"},
		{"shift a back b front; shift b back a front; shift b back a front;", 9, "empty"}, {"shift a back b back; insert a front; shift b front a front;", 9, "full"},
		{"shift g back h front;", 9, "miss: 3 2 1 / / / 4 ; 0 5"}, {"shift g front g back;", 4, "miss: 3 2 1 / / 4 / ; 0 5"}, {"shift h front g front;", 9, "empty"},
		{"insert h front; shift g front h front;", 9, "full"}, {"insert h front; shift h back h front;", 9, "miss: 3 2 1 / / 4 / 9 ; 0 5"},
		{"shift a back b front;", 1, "hit: 3 2 / 1 / 4 / ; 0 5"}, {"shift g back h front; forget;", 4, "miss: 3 2 1 / / / ; 0 5"},
	})
	// What is in the hand counts no more when room is asked for.
	wantAll(t, 3, []done{
		{"shift a back b front;", 9, "miss: 3 2 / 1 / 4 / ; 0 5"}, {"shift a back a front;", 9, "miss: 1 3 2 / / 4 / ; 0 5"},
	})
}

func TestEvict(t *testing.T) {
	wantAll(t, 4, []done{
		{"evict a back;", 9, "miss 1: 3 2 / / 4 / ; 0 5"}, {"evict a front;", 9, "miss 3: 2 1 / / 4 / ; 0 5"},
		{"evict a front; evict a back;", 9, "miss 3 1: 2 / / 4 / ; 0 5"}, {"evict a back; evict a back; evict a back;", 9, "miss 1 2 3: / / 4 / ; 0 5"},
		{"evict a back; evict a back; evict a back; evict a back;", 9, "empty"}, {"evict b back;", 9, "empty"}, {"evict b front;", 2, "empty"},
		{"evict a back;", 1, "hit 1: 3 2 / / 4 / ; 0 5"}, {"evict a back; insert b front; evict b back;", 1, "hit 1 1: 3 2 / / 4 / ; 0 5"},
		{"evict a back; insert b front;", 1, "hit 1: 3 2 / 1 / 4 / ; 0 5"},
		{"evict a back to g front;", 9, "miss 1: 3 2 / / 1 4 / ; 0 5"}, {"evict a front to g back;", 9, "miss 3: 2 1 / / 4 3 / ; 0 5"},
		{"evict a back to g back; evict a front to h front;", 9, "miss 1 3: 2 / / 4 1 / 3 ; 0 5"}, {"evict a back to h front; evict a back to h front;", 9, "full"},
		{"evict a back to g front; evict a back to g front;", 9, "full"}, {"evict b back to h front;", 9, "empty"}, {"insert h front; evict b back to h front;", 9, "empty"},
		{"evict a back to g front; forget;", 1, "hit 1: 3 2 / / 4 / ; 0 5"}, {"evict a back to g front; move a front;", 1, "hit 1: 1 3 2 / / 4 / ; 0 5"},
	})
}

func TestDrop(t *testing.T) {
	wantAll(t, 4, []done{
		{"drop g back;", 9, "miss: 3 2 1 / / / ; 0 5"}, {"drop g front;", 4, "miss: 3 2 1 / / / ; 0 5"}, {"drop h back;", 9, "empty"}, {"drop g back; drop g back;", 9, "empty"},
		{"insert g front; drop g back;", 9, "miss: 3 2 1 / / 9 / ; 0 5"}, {"insert g front; drop g front;", 9, "miss: 3 2 1 / / 4 / ; 0 5"}, {"drop g back; insert b front;", 4, "miss: 3 2 1 / 4 / / ; 0 5"},
	})
}

func TestMark(t *testing.T) {
	wantAll(t, 4, []done{
		{"mark x t = 2;", 2, "hit: 3 2:[2,0] 1 / / 4 / ; 0 5"}, {"mark x u = 255;", 4, "miss: 3 2 1 / / 4:[0,255] / ; 0 5"}, {"mark front(a) t = 1; mark back(a) u = 7;", 9, "miss: 3:[1,0] 2 1:[0,7] / / 4 / ; 0 5"},
		{"mark x t = 4;", 2, "hit: 3 2:[3,0] 1 / / 4 / ; 0 5"}, {"mark x t = 3; mark x t = 0 - 1;", 2, "hit: 3 2 1 / / 4 / ; 0 5"}, {"mark x u = 256;", 2, "hit: 3 2:[0,255] 1 / / 4 / ; 0 5"},
		{"mark x u = 1073741824; mark x t = -1073741824;", 2, "hit: 3 2:[0,255] 1 / / 4 / ; 0 5"}, {"mark front(g) t = 2; mark back(g) t = t(front(g)) + 1;", 9, "miss: 3 2 1 / / 4:[3,0] / ; 0 5"},
		{"mark x t = 1;", 9, "where"}, {"mark front(b) t = 1;", 9, "empty"}, {"mark back(h) t = 1;", 2, "empty"},
		{"mark back(b) t = t(x);", 9, "where"}, {"mark x t = t(back(b));", 9, "empty"}, {"mark back(b) t = 1 / t(x);", 2, "empty"},
		{"insert b front; mark x t = 1;", 9, "miss: 3 2 1 / 9:[1,0] / 4 / ; 0 5"}, {"forget; mark x t = 1;", 4, "where"}, {"evict a back; mark x t = 1;", 1, "where"},
		// Tags go where their entries go.
		{"mark x t = 2; move b front;", 2, "hit: 3 1 / 2:[2,0] / 4 / ; 0 5"}, {"mark x u = 9; move b front;", 4, "miss: 3 2 1 / 4:[0,9] / / ; 0 5"},
		{"mark back(a) t = 2; shift a back b front; shift b back a front;", 9, "miss: 1:[2,0] 3 2 / / 4 / ; 0 5"}, {"mark back(a) t = 1; evict a back to g front;", 9, "miss 1: 3 2 / / 1:[1,0] 4 / ; 0 5"},
		{"mark x t = 1; forget; insert b front;", 4, "miss: 3 2 1 / 4 / / ; 0 5"}, {"mark back(a) t = 3; evict a back; insert a back;", 9, "miss 1: 3 2 9 / / 4 / ; 0 5"},
		// Traps undo them.
		{"mark x t = 1; mark front(a) u = 7; shift a back a front; evict a back to h front; forget; forget;", 2, "where"},
	})
}

func TestSet(t *testing.T) {
	wantAll(t, 4, []done{
		{"set v = 7;", 9, "miss: 3 2 1 / / 4 / ; 7 5"}, {"set v = 9; set w = v;", 2, "hit: 3 2 1 / / 4 / ; 9 9"}, {"set v = 10;", 9, "miss: 3 2 1 / / 4 / ; 9 5"},
		{"set v = -3;", 9, "miss: 3 2 1 / / 4 / ; -3 5"}, {"set v = -4;", 9, "miss: 3 2 1 / / 4 / ; -3 5"}, {"set v = 1073741824; set w = v - 1;", 9, "miss: 3 2 1 / / 4 / ; 9 8"},
		{"set v = 7; set w = t(x);", 9, "where"}, {"set v = t(back(b));", 9, "empty"}, {"set v = 3; set w = 4; evict b back;", 9, "empty"},
	})
}

// Numbers, by what w is set to.
func TestNumbers(t *testing.T) {
	const most = 1 << 30
	for text, want := range map[string]int{
		"7": 7, "0": 0, "1073741824": most, "-1073741824": -most, "size": 4, "cap(a)": 3, "cap(b)": 2, "cap(g)": 2, "cap(h)": 1, "len(a)": 3, "len(b)": 0, "len(g)": 1, "total": 3, "v": 0, "w": 5,
		"t(x)": 0, "u(back(a))": 0, "-w": -5, "--w": 5, "min(w, 7)": 5, "min(7, w)": 5, "max(w, 7)": 7, "max(7, w)": 7, "min(-1, 1)": -1, "max(-1, 1)": 1,
		"w * 3": 15, "w * -3": -15, "1073741824 * 2": most, "1073741824 * -2": -most, "1073741824 * 1073741824": most, "-1073741824 * 1073741824": -most, "-1073741824 * -1073741824": most, "32768 * 32768": most, "32768 * 32767": 32768 * 32767,
		"7 / 2": 3, "-7 / 2": -4, "7 / -2": -4, "-7 / -2": 3, "5 / 0": 0, "-5 / 0": 0, "0 / 5": 0, "6 / 3": 2, "-6 / 3": -2, "-1 / 1073741824": -1, "-1073741824 / -1": most, "w / w": 1,
		"w + 3": 8, "1073741824 + 1": most, "-1073741824 + -1": -most, "1073741823 + 1": most, "w - 3": 2, "3 - w": -2, "-1073741824 - 1": -most, "1073741824 - -1": most, "1 - 2 - 3": -4, "1 - (2 - 3)": 2,
		"2 + 3 * 4": 14, "100 / 7 / 2": 7, "1073741824 + 1 - 1": most - 1, "(1073741824 + 1) * 0": 0,
		"1073741824 * 2 - 1": most - 1, "-1073741824 * 2 + 1": 1 - most, "-1073741824 - 7 + 1": 1 - most, "1073741824 - -7 - 1": most - 1, "1073741824 + 7 - 1": most - 1,
	} {
		wantDone(t, 4, "set w = "+text+";", 2, fmt.Sprintf("hit: 3 2 1 / / 4 / ; 0 %d", want))
	}
	const marked = "mark x t = 1; mark x u = 9; mark front(a) u = 7; mark back(a) t = 2; mark back(g) u = 8; "
	for text, want := range map[string]int{"t(x)": 1, "u(x)": 9, "t(front(a))": 0, "u(front(a))": 7, "t(back(a))": 2, "u(back(a))": 0, "u(front(g))": 8, "t(front(g))": 0} {
		wantDone(t, 4, marked+"set w = "+text+";", 2, fmt.Sprintf("hit: 3:[0,7] 2:[1,9] 1:[2,0] / / 4:[0,8] / ; 0 %d", want))
	}
}

// Bools, by what an if does.
func TestBools(t *testing.T) {
	for text, want := range map[string]bool{
		"true": true, "false": false, "!true": false, "!false": true, "!!true": true,
		"empty(a)": false, "empty(b)": true, "empty(g)": false, "empty(h)": true, "full(a)": true, "full(b)": false, "full(g)": false, "full(h)": false, "at(a)": true, "at(b)": false, "at(g)": false,
		"1 == 1": true, "1 == 2": false, "1 != 1": false, "1 != 2": true, "1 < 2": true, "2 < 2": false, "3 < 2": false, "1 <= 2": true, "2 <= 2": true, "3 <= 2": false,
		"2 > 1": true, "2 > 2": false, "2 > 3": false, "2 >= 1": true, "2 >= 2": true, "2 >= 3": false, "-1 < 0": true, "total == len(a)": true,
		"true == true": true, "true == false": false, "false == false": true, "true != true": false, "false != true": true, "(1 < 2) == full(a)": true, "full(a) != at(a)": false,
		"true && true": true, "true && false": false, "false && true": false, "false && false": false, "true || true": true, "true || false": true, "false || true": true, "false || false": false,
		"true || false && false": true, "(true || false) && false": false, "false && true || true": true, "false && (true || true)": false,
		// What is enough is all that is reckoned.
		"false && t(back(b)) == 0": false, "true || t(back(b)) == 0": true, "empty(b) || t(back(b)) == 0": true, "!empty(b) && t(back(b)) == 0": false, "1 > 2 && 1 < t(front(h)) || 1 == 1": true,
	} {
		end := map[bool]int{true: 1, false: 2}[want]
		wantDone(t, 4, "if "+text+" { set v = 1; } else { set v = 2; }", 2, fmt.Sprintf("hit: 3 2 1 / / 4 / ; %d 5", end))
	}
	wantAll(t, 4, []done{
		{"if true && t(back(b)) == 0 { }", 2, "empty"}, {"if false || t(x) == 0 { }", 9, "where"}, {"if t(x) == 0 && false { }", 9, "where"}, {"if t(back(h)) == 0 || true { }", 9, "empty"},
		{"if t(x) + t(back(h)) == 0 { }", 9, "where"}, {"if t(back(h)) < t(x) { }", 9, "empty"}, {"if (t(x) == 0) == (t(back(h)) == 0) { }", 9, "where"}, {"set w = max(t(back(h)), t(x));", 9, "empty"},
	})
	// A queue is full by its own capacity, whatever Size is.
	wantAll(t, 3, []done{{"if full(b) || full(g) { } else { set v = 1; }", 9, "miss: 3 2 1 / / 4 / ; 1 5"}})
	// Where x is, as it goes.
	wantAll(t, 4, []done{
		{"if at(a) || at(b) || at(g) || at(h) { } else { set v = 1; }", 9, "miss: 3 2 1 / / 4 / ; 1 5"}, {"if at(g) { set v = 1; }", 4, "miss: 3 2 1 / / 4 / ; 1 5"},
		{"insert b front; if at(b) && !at(a) { set v = 1; }", 9, "miss: 3 2 1 / 9 / 4 / ; 1 5"}, {"move b front; if at(b) && !at(a) { set v = 1; }", 2, "hit: 3 1 / 2 / 4 / ; 1 5"},
		{"shift a back b front; if at(b) { set v = 1; }", 1, "hit: 3 2 / 1 / 4 / ; 1 5"}, {"evict a back to h front; if at(h) { set v = 1; }", 1, "hit 1: 3 2 / / 4 / 1 ; 1 5"},
		{"evict a back; if !at(a) { set v = 1; }", 1, "hit 1: 3 2 / / 4 / ; 1 5"}, {"forget; if !at(g) { set v = 1; }", 4, "miss: 3 2 1 / / / ; 1 5"},
		{"evict a back; if at(a) { set v = 1; }", 2, "hit 1: 3 2 / / 4 / ; 1 5"},
	})
}

func TestFlow(t *testing.T) {
	wantAll(t, 4, []done{
		{"", 9, "miss: 3 2 1 / / 4 / ; 0 5"}, {"pass;", 2, "hit: 3 2 1 / / 4 / ; 0 5"}, {"{ set v = 1; { set w = v; } }", 9, "miss: 3 2 1 / / 4 / ; 1 1"},
		{"set v = 1; set v = v + 1; set v = v * 3;", 9, "miss: 3 2 1 / / 4 / ; 6 5"},
		{"if true { set v = 1; }", 9, "miss: 3 2 1 / / 4 / ; 1 5"}, {"if false { set v = 1; }", 9, "miss: 3 2 1 / / 4 / ; 0 5"},
		{"if false { set v = 1; } else if true { set v = 2; } else { set v = 3; }", 9, "miss: 3 2 1 / / 4 / ; 2 5"}, {"if false { set v = 1; } else if false { set v = 2; } else { set v = 3; }", 9, "miss: 3 2 1 / / 4 / ; 3 5"},
		{"if false { set v = 1; } else if false { set v = 2; }", 9, "miss: 3 2 1 / / 4 / ; 0 5"},
		{"loop 3 while true { set v = v + 1; }", 9, "miss: 3 2 1 / / 4 / ; 3 5"}, {"loop 3 while false { set v = v + 1; }", 9, "miss: 3 2 1 / / 4 / ; 0 5"}, {"loop 0 while true { set v = v + 1; }", 9, "miss: 3 2 1 / / 4 / ; 0 5"},
		{"loop 8 while v < 2 { set v = v + 1; }", 9, "miss: 3 2 1 / / 4 / ; 2 5"}, {"loop cap(a) - 1 while true { set v = v + 1; }", 9, "miss: 3 2 1 / / 4 / ; 2 5"},
		{"loop 2 while true { loop 3 while true { set v = v + 1; } }", 9, "miss: 3 2 1 / / 4 / ; 6 5"}, {"loop 9 while !empty(a) { evict a back; }", 9, "miss 1 2 3: / / 4 / ; 0 5"},
		// Behind the last round nothing is asked.
		{"loop 3 while t(back(a)) == 0 { evict a back; }", 9, "miss 1 2 3: / / 4 / ; 0 5"}, {"loop 4 while t(back(a)) == 0 { evict a back; }", 9, "empty"}, {"loop 0 while t(back(b)) == 0 { }", 9, "miss: 3 2 1 / / 4 / ; 0 5"},
		// An x that goes in a loop: no judgment would take it, but it is done.
		{"loop 3 while true { insert b front; evict b back; }", 9, "miss 9 9 9: 3 2 1 / / 4 / ; 0 5"},
		{"if t(x) == 0 { set v = 1; } else { set v = 2; }", 9, "where"}, {"loop 2 while true { forget; }", 4, "where"}, {"{ { evict b back; } } set v = 1;", 9, "empty"},
	})
}

func TestCall(t *testing.T) {
	const text = things + "rule r { set v = v + 1; } rule s { call r; call r; if full(a) { call r; } } rule stuck { evict b back; } rule out { evict a back; } "
	for inner, want := range map[string]string{
		"call r;": "miss; 1 5", "call r; call r;": "miss; 2 5", "call s;": "miss; 2 5", "loop 3 while true { call r; }": "miss; 3 5", "call s; call r; set w = v;": "miss; 3 3", "call stuck;": "empty; 0 5", "call r; call stuck; call r;": "empty; 0 5",
		"insert a front; call out;": "miss 7; 0 5", "if at(a) { call s; }": "miss; 0 5",
	} {
		m := openText(t, text+"on miss { "+inner+" } }", usual())
		if got := tellAnswer(m.Access(7)) + "; " + strings.Trim(fmt.Sprint(m.State().Vars), "[]"); got != want {
			t.Errorf("%s: %s; want %s", inner, got, want)
		}
	}
}

// Each event is that of the queue at which x is.
func TestP1205Events(t *testing.T) {
	const text = `policy p { queue a resident; queue g ghost; queue b resident; queue h ghost; var v = 0 in 0 .. 99;
		on ghost h { set v = 4; } on miss { set v = 5; } on hit b { set v = 3; } on ghost g { set v = 2; } on hit a { set v = 1; } }`
	const fill = "on miss { if empty(a) { insert a front; } else if empty(g) { insert g front; } else if empty(b) { insert b front; } else if empty(h) { insert h front; } else { set v = 5; } }"
	m := openText(t, strings.Replace(text, "on miss { set v = 5; }", fill, 1), api.Caps{Size: 9, Queues: []int{2, 2, 2, 2}})
	for key := range uint64(4) {
		m.Access(key)
	}
	for key, want := range []string{"hit; 1", "miss; 2", "hit; 3", "miss; 4", "miss; 5"} {
		if got := tellAnswer(m.Access(uint64(key))) + "; " + fmt.Sprint(m.State().Vars[0]); got != want {
			t.Errorf("%d: %s; want %s", key, got, want)
		}
	}
	if m.Stats() != (api.Stats{Hits: 2, Misses: 7}) {
		t.Errorf("%v", m.Stats())
	}
}

// An event that is not there does nothing; a hit is one all the same.
func TestP1205NoEvent(t *testing.T) {
	m := openText(t, "policy p { queue a resident; queue g ghost; on miss { if empty(a) { insert a front; } else { insert g front; } } }", api.Caps{Size: 1, Queues: []int{1, 1}})
	for n, want := range []string{"miss", "miss", "hit", "miss", "full"} {
		key := []uint64{7, 8, 7, 8, 9}[n]
		if got := tellAnswer(m.Access(key)); got != want {
			t.Errorf("%d: %s; want %s", key, got, want)
		}
	}
	if tellState(m.State()) != "7 / 8 ; " || m.Stats() != (api.Stats{Hits: 1, Misses: 3}) {
		t.Errorf("%v, %v", m.State(), m.Stats())
	}
	m = open(t, api.Plan{Ghost: []bool{false}, On: [][]api.Act{{}}}, api.Caps{Size: 1, Queues: []int{1}})
	if a := m.Access(7); !sameAnswer(a, api.Answer{}) || m.Stats() != (api.Stats{Misses: 1}) {
		t.Errorf("%v", a)
	}
	m = open(t, api.Plan{}, api.Caps{Size: 1})
	if a := m.Access(7); !sameAnswer(a, api.Answer{}) || len(m.State().Queues) > 0 || len(m.State().Vars) > 0 || m.Remove(7) != api.RNone || m.Stats() != (api.Stats{Misses: 1}) {
		t.Errorf("%v, %v", a, m.State())
	}
}

func TestP1205Remove(t *testing.T) {
	for _, c := range []struct {
		key   uint64
		want  int
		state string
	}{
		{1, api.RResident, "3 2 / / 4 / ; 0 5"}, {2, api.RResident, "3 1 / / 4 / ; 0 5"}, {3, api.RResident, "2 1 / / 4 / ; 0 5"}, {4, api.RGhost, "3 2 1 / / / ; 0 5"},
		{9, api.RNone, base}, {0, api.RNone, base}, {math.MaxUint64, api.RNone, base},
	} {
		m := tried(t, 4, "set v = 9;")[0]
		stats := m.Stats()
		if got := m.Remove(c.key); got != c.want || tellState(m.State()) != c.state {
			t.Errorf("%d: %d, %s; want %d, %s", c.key, got, tellState(m.State()), c.want, c.state)
		}
		if c.want != api.RNone {
			stats.Removals++
		}
		if m.Stats() != stats || m.Remove(c.key) != api.RNone || m.Stats() != stats {
			t.Errorf("%d: %v; want %v", c.key, m.Stats(), stats)
		}
	}
	// What was removed is nowhere, and comes again without its tags.
	m := openText(t, things+"on hit a { mark x t = t(x) + 1; } on miss { insert a front; } }", usual())
	for _, key := range []uint64{1, 2, 2, 3, 3, 3} {
		m.Access(key)
	}
	m.Remove(2)
	m.Access(2)
	m.Remove(1)
	m.Access(1)
	if tellState(m.State()) != "1 2 3:[2,0] / / / ; 0 5" || m.Stats() != (api.Stats{Hits: 3, Misses: 5, Removals: 2}) {
		t.Errorf("%v, %v", m.State(), m.Stats())
	}
}

func TestP1205State(t *testing.T) {
	m := openText(t, things+"on miss { insert g front; } }", usual())
	s := m.State()
	if len(s.Queues) != 4 || !slices.Equal(s.Vars, []int{0, 5}) || slices.ContainsFunc(s.Queues, func(list []api.Entry) bool { return len(list) > 0 }) {
		t.Errorf("%v", s)
	}
	m.Access(math.MaxUint64)
	if s := m.State(); len(s.Queues[2]) != 1 || !sameEntry(s.Queues[2][0], api.Entry{Key: math.MaxUint64, Tags: []int{0, 0}}) {
		t.Errorf("%v", s)
	}
	// Each as many as there may be.
	text, c := "policy p { ", api.Caps{Size: 16}
	inner := ""
	for i := range 16 {
		text += fmt.Sprintf("queue q%d %s; var v%d = %d in 0 .. 99; ", i, []string{"resident", "ghost"}[i%2], i, i)
		inner += fmt.Sprintf("if empty(q%d) { insert q%[1]d front; mark x t%d = %d; set v%[1]d = v%[1]d + 16; } else ", i, i%4, i+1)
		c.Queues = append(c.Queues, 1)
	}
	m = openText(t, text+"tag t0 in 20; tag t1 in 20; tag t2 in 20; tag t3 in 20; on miss { "+inner+"{ } } }", c)
	for key := range uint64(17) {
		m.Access(key + 100)
	}
	for i, list := range m.State().Queues {
		tags := make([]int, 4)
		tags[i%4] = i + 1
		if len(list) != 1 || !sameEntry(list[0], api.Entry{Key: uint64(100 + i), Tags: tags}) || m.State().Vars[i] != i+16 {
			t.Errorf("%d: %v, %v", i, list, m.State().Vars)
		}
	}
}

// What no text becomes: numbers below 0, a tag of an item that is kept while more is reckoned, blocks in the places of doings.
func TestP1205Acts(t *testing.T) {
	for text, want := range map[string]string{
		"block(set 1(num -7))": "miss: / / / ; 0 -7", "block(set 0(num -7))": "miss: / / / ; -3 5", "block(set 1(neg(num -1073741824)))": "miss: / / / ; 0 1073741824", "block(set 1(div(num -7, num 2)))": "miss: / / / ; 0 -4", "block(set 1(mul(num -7, num -3)))": "miss: / / / ; 0 21", "block(set 1(sub(num -1073741824, num 1)))": "miss: / / / ; 0 -1073741824",
		"block(insert 0 0, mark 0(x, num -1))": "miss: 1 / / / ; 0 5", "block(insert 0 0, mark 1(end 0 1, num 300))": "miss: 1:[0,255] / / / ; 0 5", "block(insert 0 0, shift 0 0 1 1, set 1(total))": "miss: / 1 / / ; 0 1", "block(insert 0 0, evict 0 1, set 1(total))": "miss 1: / / / ; 0 0", "block(insert 0 0, spill 0 0 3 0, set 1(len 3))": "miss 1: / / / 1 ; 0 1",
		"block(insert 2 0, drop 2 0, set 1(len 2))": "miss: / / / ; 0 0", "block(insert 2 0, shift 2 0 3 1, forget)": "miss: / / / ; 0 5", "block(evict 0 0)": "empty: / / / ; 0 5", "block(drop 2 0)": "empty: / / / ; 0 5", "block(spill 0 0 2 0)": "empty: / / / ; 0 5", "block(shift 2 0 3 0)": "empty: / / / ; 0 5",
		"block(loop 3(bool 1, block(set 0(add(var 0, num 2)))))": "miss: / / / ; 6 5", "block(block(block(set 0(num 1))), set 1(var 0))": "miss: / / / ; 1 1", "block(if(eq(bool 0, bool 0), block(set 0(num 1)), block(set 0(num 2))))": "miss: / / / ; 1 5", "block(if(eq(bool 1, bool 0), block(set 0(num 1)), block(set 0(num 2))))": "miss: / / / ; 2 5",
		"block(if(and(bool 0, eq(num 0, tag 0(x))), block))": "miss: / / / ; 0 5", "block(if(and(bool 1, eq(num 0, tag 0(x))), block))": "where: / / / ; 0 5", "block(if(or(bool 1, eq(num 0, tag 0(x))), block))": "miss: / / / ; 0 5", "block(if(or(bool 0, eq(num 0, tag 0(end 3 1))), block))": "empty: / / / ; 0 5",
		"block(mark 0(end 0 0, tag 0(x)))": "where: / / / ; 0 5", "block(mark 0(x, tag 0(end 0 0)))": "empty: / / / ; 0 5",
		// A ghost x comes back: it was told, and is resident at the end.
		"block(insert 0 0, spill 0 0 2 0, move 1 0, mark 0(x, num 2))": "miss 1: / 1:[2,0] / / ; 0 5",
	} {
		m := open(t, plan(acts(text)), usual())
		if got := tellAnswer(m.Access(1)) + ": " + tellState(m.State()); got != want {
			t.Errorf("%s: %s; want %s", text, got, want)
		}
	}
}
