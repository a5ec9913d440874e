package deno_test

import (
	"fmt"
	"math"
	"slices"
	"strings"
	"testing"

	"winnow/api"
	"winnow/deno"
	"winnow/gram"
	"winnow/names"
	"winnow/typed"
)

// whole is the policy of a text.
func whole(t *testing.T, text string) api.Policy {
	t.Helper()
	rows, _, fault := gram.Parse([]byte(text))
	if fault != (api.Fault{}) {
		t.Fatalf("%.300s: %v", text, fault)
	}
	p, fault := names.Resolve(rows)
	if fault != (api.Fault{}) {
		t.Fatalf("%.300s: %v", text, fault)
	}
	return p
}

// open is the machine of a text.
func open(t *testing.T, text string, c api.Caps) *deno.Machine {
	t.Helper()
	p := whole(t, text)
	u, fault := typed.Check(p, c)
	if fault != (api.Fault{}) {
		t.Fatalf("%.300s: %v", text, fault)
	}
	m, err := deno.New(p, u, c)
	if err != api.OK || m == nil {
		t.Fatalf("%.300s: %v", text, err)
	}
	return m
}

// row is the number of the row of that kind, so many behind the first of them.
func row(t *testing.T, p api.Policy, kind, nth int) int {
	t.Helper()
	for at, row := range p.Rows {
		if row.Kind != kind {
			continue
		}
		if nth == 0 {
			return at
		}
		nth--
	}
	t.Fatalf("no row of kind %d", kind)
	return 0
}

// things stand in the policies of most tests.
const things = "policy p { queue a resident; queue b resident; queue g ghost; queue h ghost; var v = 0 in -3 .. 9; var w = 5 in -1073741824 .. 1073741824; tag t in 3; tag u in 255; "

func usual() api.Caps { return api.Caps{Size: 4, Queues: []int{3, 2, 2, 1}} }

func tellEntry(e api.Entry) string {
	for _, n := range e.Tags {
		if n != 0 {
			return strings.Join(strings.Fields(fmt.Sprint(e.Key, ":", e.Tags)), ",")
		}
	}
	return fmt.Sprint(e.Key)
}

// tellState is such as "3 2:[1,0] / / 4 / ; 0 5": the queues, the vars.
func tellState(s api.State) string {
	var words []string
	for i, list := range s.Queues {
		if i > 0 {
			words = append(words, "/")
		}
		for _, e := range list {
			words = append(words, tellEntry(e))
		}
	}
	return strings.Join(words, " ") + " ; " + strings.Trim(fmt.Sprint(s.Vars), "[]")
}

// tellAnswer is such as "miss 7 8", or a trap.
func tellAnswer(a api.Answer) string {
	if a.Trap != api.TNone {
		word := []string{"", "full", "empty", "where", "fuel"}[a.Trap]
		if a.Hit || len(a.Evicted) > 0 {
			word += " and more"
		}
		return word
	}
	return strings.TrimSpace(map[bool]string{true: "hit ", false: "miss "}[a.Hit] + strings.Trim(fmt.Sprint(a.Evicted), "[]"))
}

// wantSteps wants so many of doings in a miss's block, without the block's own step, and what w is then, or what is answered.
func wantSteps(t *testing.T, doings string, want int, end string) {
	t.Helper()
	m := open(t, things+"rule r { pass; } on miss { "+doings+" } }", usual())
	got := tellAnswer(m.Access(1))
	if got == "miss" {
		got = fmt.Sprint("w ", m.State().Vars[1])
	}
	if got != end || m.Steps() != 1+want {
		t.Errorf("%.300s: %s, %d steps; want %s, %d", doings, got, m.Steps(), end, 1+want)
	}
}

// The state in which a doing is tried: a is full, b and h are empty, g has one.
const base = "3 2 1 / / 4 / ; 0 5"

func tried(t *testing.T, size int, doing string) *deno.Machine {
	t.Helper()
	c := usual()
	c.Size = size
	m := open(t, things+"on miss { if total < 3 { insert a front; } else if empty(g) { insert g front; } else { "+doing+" } } on hit a { "+doing+" } on ghost g { "+doing+" } }", c)
	for key := range uint64(4) {
		m.Access(key + 1)
	}
	if s := tellState(m.State()); s != base {
		t.Fatal(s)
	}
	return m
}

// wantDone wants what a doing, on an Access of the key, answers, and the state behind it. (A trap leaves the state.)
func wantDone(t *testing.T, size int, doing string, key uint64, want string) {
	t.Helper()
	m := tried(t, size, doing)
	stats := m.Stats()
	a := m.Access(key)
	got := tellAnswer(a)
	if s := tellState(m.State()); a.Trap == api.TNone || s != base {
		got += ": " + s
	}
	if got != want {
		t.Errorf("%s, of %d: %s; want %s", doing, key, got, want)
	}
	if a.Trap == api.TNone {
		stats.Evictions += len(a.Evicted)
		if a.Hit {
			stats.Hits++
		} else {
			stats.Misses++
		}
	}
	if m.Stats() != stats {
		t.Errorf("%s, of %d: %v; want %v", doing, key, m.Stats(), stats)
	}
}

// done is a doing, the key that is asked for (2 is in a, 4 in g, 9 nowhere), and what comes of it.
type done struct {
	doing string
	key   uint64
	want  string
}

func wantAll(t *testing.T, size int, list []done) {
	t.Helper()
	for _, d := range list {
		wantDone(t, size, d.doing, d.key, d.want)
	}
}

func TestInsert(t *testing.T) {
	wantAll(t, 4, []done{
		{"insert b front;", 9, "miss: 3 2 1 / 9 / 4 / ; 0 5"}, {"insert b back;", 9, "miss: 3 2 1 / 9 / 4 / ; 0 5"},
		{"insert g front;", 9, "miss: 3 2 1 / / 9 4 / ; 0 5"}, {"insert g back;", 9, "miss: 3 2 1 / / 4 9 / ; 0 5"},
		{"insert a front;", 9, "full"}, {"insert a back;", 9, "full"}, {"evict a back; insert a front;", 9, "miss 1: 9 3 2 / / 4 / ; 0 5"},
		{"evict a front; insert a back;", 9, "miss 3: 2 1 9 / / 4 / ; 0 5"},
		{"insert b front;", 2, "where"}, {"insert a front;", 2, "where"}, {"insert b front;", 4, "where"}, {"insert a front;", 4, "where"}, {"insert g front;", 4, "where"},
		{"insert b front; insert b front;", 9, "where"}, {"insert b front; insert a front;", 9, "where"}, {"insert g front; insert b front;", 9, "where"},
		{"evict a back to h front; insert h front;", 9, "full"},
		{"insert b front; evict b front; insert g front;", 9, "miss 9: 3 2 1 / / 9 4 / ; 0 5"},
		{"forget; insert b front;", 4, "miss: 3 2 1 / 4 / / ; 0 5"}, {"forget; insert a front;", 4, "full"},
		{"insert g front; mark x t = 2; shift g front h back; forget; insert h front;", 9, "miss: 3 2 1 / / 4 / 9 ; 0 5"},
	})
	// Size is reached: a resident queue has no room, a ghost queue has.
	wantAll(t, 3, []done{
		{"insert b front;", 9, "full"}, {"insert b back;", 9, "full"}, {"insert h front;", 9, "miss: 3 2 1 / / 4 / 9 ; 0 5"},
		{"evict a back; insert b front;", 9, "miss 1: 3 2 / 9 / 4 / ; 0 5"}, {"insert b front;", 2, "where"},
	})
}

func TestMove(t *testing.T) {
	wantAll(t, 4, []done{
		{"move a front;", 2, "hit: 2 3 1 / / 4 / ; 0 5"}, {"move a back;", 2, "hit: 3 1 2 / / 4 / ; 0 5"},
		{"move a front;", 3, "hit: 3 2 1 / / 4 / ; 0 5"}, {"move a back;", 3, "hit: 2 1 3 / / 4 / ; 0 5"},
		{"move a front;", 1, "hit: 1 3 2 / / 4 / ; 0 5"}, {"move a back;", 1, "hit: 3 2 1 / / 4 / ; 0 5"},
		{"move b front;", 2, "hit: 3 1 / 2 / 4 / ; 0 5"}, {"move b back; move a front;", 2, "hit: 2 3 1 / / 4 / ; 0 5"},
		{"shift a front b front; move b front;", 1, "hit: 2 / 1 3 / 4 / ; 0 5"}, {"shift a front b front; move b back;", 1, "hit: 2 / 3 1 / 4 / ; 0 5"},
		{"shift a front b front; shift a front b front; move b back;", 1, "full"},
		{"move b front;", 4, "miss: 3 2 1 / 4 / / ; 0 5"}, {"move a front;", 4, "full"}, {"evict a back; move a back;", 4, "miss 1: 3 2 4 / / / ; 0 5"},
		{"move a front;", 9, "where"}, {"move b front;", 9, "where"},
	})
	// x itself counts no more when room is asked for.
	wantAll(t, 3, []done{
		{"move b front;", 2, "hit: 3 1 / 2 / 4 / ; 0 5"}, {"move a front;", 2, "hit: 2 3 1 / / 4 / ; 0 5"}, {"move b front;", 4, "full"},
		{"evict a back; move b front;", 4, "miss 1: 3 2 / 4 / / ; 0 5"}, {"move b front;", 9, "where"},
	})
}

func TestForget(t *testing.T) {
	wantAll(t, 4, []done{
		{"forget;", 4, "miss: 3 2 1 / / / ; 0 5"}, {"forget;", 2, "where"}, {"forget;", 9, "where"}, {"forget; forget;", 4, "where"},
		{"insert h front; forget;", 9, "miss: 3 2 1 / / 4 / ; 0 5"}, {"insert b front; forget;", 9, "where"}, {"move b front; forget;", 4, "where"},
		{"evict a back to g back; forget;", 1, "hit 1: 3 2 / / 4 / ; 0 5"}, {"evict a back to g back; forget;", 4, "miss 1: 3 2 / / 1 / ; 0 5"},
	})
}

func TestShift(t *testing.T) {
	wantAll(t, 4, []done{
		{"shift a back a front;", 9, "miss: 1 3 2 / / 4 / ; 0 5"}, {"shift a front a back;", 9, "miss: 2 1 3 / / 4 / ; 0 5"},
		{"shift a front a front;", 9, "miss: 3 2 1 / / 4 / ; 0 5"}, {"shift a back a back;", 9, "miss: 3 2 1 / / 4 / ; 0 5"},
		{"shift a back b front; shift a back b front;", 9, "miss: 3 / 2 1 / 4 / ; 0 5"}, {"shift a back b back; shift a front b back;", 9, "miss: 2 / 1 3 / 4 / ; 0 5"},
		{"shift a back b front; shift a back b front; shift a back b front;", 9, "full"}, {"shift b back a front;", 9, "empty"}, {"shift b front b front;", 9, "empty"},
		{"shift a back b front; shift b back a front; shift b back a front;", 9, "empty"}, {"shift a back b back; insert a front; shift b front a front;", 9, "full"},
		{"shift g back h front;", 9, "miss: 3 2 1 / / / 4 ; 0 5"}, {"shift g front g back;", 4, "miss: 3 2 1 / / 4 / ; 0 5"}, {"shift h front g front;", 9, "empty"},
		{"insert h front; shift g front h front;", 9, "full"}, {"insert h front; shift h back h front;", 9, "miss: 3 2 1 / / 4 / 9 ; 0 5"},
		{"shift a back b front;", 1, "hit: 3 2 / 1 / 4 / ; 0 5"}, {"shift g back h front; forget;", 4, "miss: 3 2 1 / / / ; 0 5"},
	})
	// What is in the hand counts no more when room is asked for.
	wantAll(t, 3, []done{
		{"shift a back b front;", 9, "miss: 3 2 / 1 / 4 / ; 0 5"}, {"shift a back a front;", 9, "miss: 1 3 2 / / 4 / ; 0 5"},
	})
}

func TestEvict(t *testing.T) {
	wantAll(t, 4, []done{
		{"evict a back;", 9, "miss 1: 3 2 / / 4 / ; 0 5"}, {"evict a front;", 9, "miss 3: 2 1 / / 4 / ; 0 5"},
		{"evict a front; evict a back;", 9, "miss 3 1: 2 / / 4 / ; 0 5"}, {"evict a back; evict a back; evict a back;", 9, "miss 1 2 3: / / 4 / ; 0 5"},
		{"evict a back; evict a back; evict a back; evict a back;", 9, "empty"}, {"evict b back;", 9, "empty"}, {"evict b front;", 2, "empty"},
		{"evict a back;", 1, "hit 1: 3 2 / / 4 / ; 0 5"}, {"evict a back; insert b front; evict b back;", 1, "hit 1 1: 3 2 / / 4 / ; 0 5"},
		{"evict a back; insert b front;", 1, "hit 1: 3 2 / 1 / 4 / ; 0 5"},
		{"evict a back to g front;", 9, "miss 1: 3 2 / / 1 4 / ; 0 5"}, {"evict a front to g back;", 9, "miss 3: 2 1 / / 4 3 / ; 0 5"},
		{"evict a back to g back; evict a front to h front;", 9, "miss 1 3: 2 / / 4 1 / 3 ; 0 5"}, {"evict a back to h front; evict a back to h front;", 9, "full"},
		{"evict a back to g front; evict a back to g front;", 9, "full"}, {"evict b back to h front;", 9, "empty"}, {"insert h front; evict b back to h front;", 9, "empty"},
		{"evict a back to g front; forget;", 1, "hit 1: 3 2 / / 4 / ; 0 5"}, {"evict a back to g front; move a front;", 1, "hit 1: 1 3 2 / / 4 / ; 0 5"},
	})
}

func TestDrop(t *testing.T) {
	wantAll(t, 4, []done{
		{"drop g back;", 9, "miss: 3 2 1 / / / ; 0 5"}, {"drop g front;", 4, "miss: 3 2 1 / / / ; 0 5"}, {"drop h back;", 9, "empty"}, {"drop g back; drop g back;", 9, "empty"},
		{"insert g front; drop g back;", 9, "miss: 3 2 1 / / 9 / ; 0 5"}, {"insert g front; drop g front;", 9, "miss: 3 2 1 / / 4 / ; 0 5"}, {"drop g back; insert b front;", 4, "miss: 3 2 1 / 4 / / ; 0 5"},
	})
}

func TestMark(t *testing.T) {
	wantAll(t, 4, []done{
		{"mark x t = 2;", 2, "hit: 3 2:[2,0] 1 / / 4 / ; 0 5"}, {"mark x u = 255;", 4, "miss: 3 2 1 / / 4:[0,255] / ; 0 5"}, {"mark front(a) t = 1; mark back(a) u = 7;", 9, "miss: 3:[1,0] 2 1:[0,7] / / 4 / ; 0 5"},
		{"mark x t = 4;", 2, "hit: 3 2:[3,0] 1 / / 4 / ; 0 5"}, {"mark x t = 3; mark x t = 0 - 1;", 2, "hit: 3 2 1 / / 4 / ; 0 5"}, {"mark x u = 256;", 2, "hit: 3 2:[0,255] 1 / / 4 / ; 0 5"},
		{"mark x u = 1073741824; mark x t = -1073741824;", 2, "hit: 3 2:[0,255] 1 / / 4 / ; 0 5"}, {"mark front(g) t = 2; mark back(g) t = t(front(g)) + 1;", 9, "miss: 3 2 1 / / 4:[3,0] / ; 0 5"},
		{"mark x t = 1;", 9, "where"}, {"mark front(b) t = 1;", 9, "empty"}, {"mark back(h) t = 1;", 2, "empty"},
		{"mark back(b) t = t(x);", 9, "where"}, {"mark x t = t(back(b));", 9, "empty"}, {"mark back(b) t = 1 / t(x);", 2, "empty"},
		{"insert b front; mark x t = 1;", 9, "miss: 3 2 1 / 9:[1,0] / 4 / ; 0 5"}, {"forget; mark x t = 1;", 4, "where"}, {"evict a back; mark x t = 1;", 1, "where"},
		// Tags go where their entries go.
		{"mark x t = 2; move b front;", 2, "hit: 3 1 / 2:[2,0] / 4 / ; 0 5"}, {"mark x u = 9; move b front;", 4, "miss: 3 2 1 / 4:[0,9] / / ; 0 5"},
		{"mark back(a) t = 2; shift a back b front; shift b back a front;", 9, "miss: 1:[2,0] 3 2 / / 4 / ; 0 5"}, {"mark back(a) t = 1; evict a back to g front;", 9, "miss 1: 3 2 / / 1:[1,0] 4 / ; 0 5"},
		{"mark x t = 1; forget; insert b front;", 4, "miss: 3 2 1 / 4 / / ; 0 5"}, {"mark back(a) t = 3; evict a back; insert a back;", 9, "miss 1: 3 2 9 / / 4 / ; 0 5"},
		// Traps undo them.
		{"mark x t = 1; mark front(a) u = 7; shift a back a front; evict a back to h front; forget; forget;", 2, "where"},
	})
}

func TestSet(t *testing.T) {
	wantAll(t, 4, []done{
		{"set v = 7;", 9, "miss: 3 2 1 / / 4 / ; 7 5"}, {"set v = 9; set w = v;", 2, "hit: 3 2 1 / / 4 / ; 9 9"}, {"set v = 10;", 9, "miss: 3 2 1 / / 4 / ; 9 5"},
		{"set v = -3;", 9, "miss: 3 2 1 / / 4 / ; -3 5"}, {"set v = -4;", 9, "miss: 3 2 1 / / 4 / ; -3 5"}, {"set v = 1073741824; set w = v - 1;", 9, "miss: 3 2 1 / / 4 / ; 9 8"},
		{"set v = 7; set w = t(x);", 9, "where"}, {"set v = t(back(b));", 9, "empty"}, {"set v = 3; set w = 4; evict b back;", 9, "empty"},
	})
}

// Numbers, by what w is set to.
func TestNumbers(t *testing.T) {
	const most = 1 << 30
	for text, want := range map[string]int{
		"7": 7, "0": 0, "1073741824": most, "-1073741824": -most, "size": 4, "cap(a)": 3, "cap(b)": 2, "cap(g)": 2, "cap(h)": 1, "len(a)": 3, "len(b)": 0, "len(g)": 1, "total": 3, "v": 0, "w": 5,
		"t(x)": 0, "u(back(a))": 0, "-w": -5, "--w": 5, "min(w, 7)": 5, "min(7, w)": 5, "max(w, 7)": 7, "max(7, w)": 7, "min(-1, 1)": -1, "max(-1, 1)": 1,
		"w * 3": 15, "w * -3": -15, "1073741824 * 2": most, "1073741824 * -2": -most, "1073741824 * 1073741824": most, "-1073741824 * 1073741824": -most, "-1073741824 * -1073741824": most, "32768 * 32768": most, "32768 * 32767": 32768 * 32767,
		"7 / 2": 3, "-7 / 2": -4, "7 / -2": -4, "-7 / -2": 3, "5 / 0": 0, "-5 / 0": 0, "0 / 5": 0, "6 / 3": 2, "-6 / 3": -2, "-1 / 1073741824": -1, "-1073741824 / -1": most, "w / w": 1,
		"w + 3": 8, "1073741824 + 1": most, "-1073741824 + -1": -most, "1073741823 + 1": most, "w - 3": 2, "3 - w": -2, "-1073741824 - 1": -most, "1073741824 - -1": most, "1 - 2 - 3": -4, "1 - (2 - 3)": 2,
		"2 + 3 * 4": 14, "100 / 7 / 2": 7, "1073741824 + 1 - 1": most - 1, "(1073741824 + 1) * 0": 0,
		"1073741824 * 2 - 1": most - 1, "-1073741824 * 2 + 1": 1 - most, "-1073741824 - 7 + 1": 1 - most, "1073741824 - -7 - 1": most - 1, "1073741824 + 7 - 1": most - 1,
	} {
		wantDone(t, 4, "set w = "+text+";", 2, fmt.Sprintf("hit: 3 2 1 / / 4 / ; 0 %d", want))
	}
	const marked = "mark x t = 1; mark x u = 9; mark front(a) u = 7; mark back(a) t = 2; mark back(g) u = 8; "
	for text, want := range map[string]int{"t(x)": 1, "u(x)": 9, "t(front(a))": 0, "u(front(a))": 7, "t(back(a))": 2, "u(back(a))": 0, "u(front(g))": 8, "t(front(g))": 0} {
		wantDone(t, 4, marked+"set w = "+text+";", 2, fmt.Sprintf("hit: 3:[0,7] 2:[1,9] 1:[2,0] / / 4:[0,8] / ; 0 %d", want))
	}
}

// Bools, by what an if does.
func TestBools(t *testing.T) {
	for text, want := range map[string]bool{
		"true": true, "false": false, "!true": false, "!false": true, "!!true": true,
		"empty(a)": false, "empty(b)": true, "empty(g)": false, "empty(h)": true, "full(a)": true, "full(b)": false, "full(g)": false, "full(h)": false, "at(a)": true, "at(b)": false, "at(g)": false,
		"1 == 1": true, "1 == 2": false, "1 != 1": false, "1 != 2": true, "1 < 2": true, "2 < 2": false, "3 < 2": false, "1 <= 2": true, "2 <= 2": true, "3 <= 2": false,
		"2 > 1": true, "2 > 2": false, "2 > 3": false, "2 >= 1": true, "2 >= 2": true, "2 >= 3": false, "-1 < 0": true, "total == len(a)": true,
		"true == true": true, "true == false": false, "false == false": true, "true != true": false, "false != true": true, "(1 < 2) == full(a)": true, "full(a) != at(a)": false,
		"true && true": true, "true && false": false, "false && true": false, "false && false": false, "true || true": true, "true || false": true, "false || true": true, "false || false": false,
		"true || false && false": true, "(true || false) && false": false, "false && true || true": true, "false && (true || true)": false,
		// What is enough is all that is reckoned.
		"false && t(back(b)) == 0": false, "true || t(back(b)) == 0": true, "empty(b) || t(back(b)) == 0": true, "!empty(b) && t(back(b)) == 0": false, "1 > 2 && 1 < t(front(h)) || 1 == 1": true,
	} {
		end := map[bool]int{true: 1, false: 2}[want]
		wantDone(t, 4, "if "+text+" { set v = 1; } else { set v = 2; }", 2, fmt.Sprintf("hit: 3 2 1 / / 4 / ; %d 5", end))
	}
	wantAll(t, 4, []done{
		{"if true && t(back(b)) == 0 { }", 2, "empty"}, {"if false || t(x) == 0 { }", 9, "where"}, {"if t(x) == 0 && false { }", 9, "where"}, {"if t(back(h)) == 0 || true { }", 9, "empty"},
		{"if t(x) + t(back(h)) == 0 { }", 9, "where"}, {"if t(back(h)) < t(x) { }", 9, "empty"}, {"if (t(x) == 0) == (t(back(h)) == 0) { }", 9, "where"}, {"set w = max(t(back(h)), t(x));", 9, "empty"},
	})
	// A queue is full by its own capacity, whatever Size is.
	wantAll(t, 3, []done{{"if full(b) || full(g) { } else { set v = 1; }", 9, "miss: 3 2 1 / / 4 / ; 1 5"}})
	// Where x is, as it goes.
	wantAll(t, 4, []done{
		{"if at(a) || at(b) || at(g) || at(h) { } else { set v = 1; }", 9, "miss: 3 2 1 / / 4 / ; 1 5"}, {"if at(g) { set v = 1; }", 4, "miss: 3 2 1 / / 4 / ; 1 5"},
		{"insert b front; if at(b) && !at(a) { set v = 1; }", 9, "miss: 3 2 1 / 9 / 4 / ; 1 5"}, {"move b front; if at(b) && !at(a) { set v = 1; }", 2, "hit: 3 1 / 2 / 4 / ; 1 5"},
		{"shift a back b front; if at(b) { set v = 1; }", 1, "hit: 3 2 / 1 / 4 / ; 1 5"}, {"evict a back to h front; if at(h) { set v = 1; }", 1, "hit 1: 3 2 / / 4 / 1 ; 1 5"},
		{"evict a back; if !at(a) { set v = 1; }", 1, "hit 1: 3 2 / / 4 / ; 1 5"}, {"forget; if !at(g) { set v = 1; }", 4, "miss: 3 2 1 / / / ; 1 5"},
		{"evict a back; if at(a) { set v = 1; }", 2, "hit 1: 3 2 / / 4 / ; 1 5"},
	})
}

func TestFlow(t *testing.T) {
	wantAll(t, 4, []done{
		{"", 9, "miss: 3 2 1 / / 4 / ; 0 5"}, {"pass;", 2, "hit: 3 2 1 / / 4 / ; 0 5"}, {"{ set v = 1; { set w = v; } }", 9, "miss: 3 2 1 / / 4 / ; 1 1"},
		{"set v = 1; set v = v + 1; set v = v * 3;", 9, "miss: 3 2 1 / / 4 / ; 6 5"},
		{"if true { set v = 1; }", 9, "miss: 3 2 1 / / 4 / ; 1 5"}, {"if false { set v = 1; }", 9, "miss: 3 2 1 / / 4 / ; 0 5"},
		{"if false { set v = 1; } else if true { set v = 2; } else { set v = 3; }", 9, "miss: 3 2 1 / / 4 / ; 2 5"}, {"if false { set v = 1; } else if false { set v = 2; } else { set v = 3; }", 9, "miss: 3 2 1 / / 4 / ; 3 5"},
		{"if false { set v = 1; } else if false { set v = 2; }", 9, "miss: 3 2 1 / / 4 / ; 0 5"},
		{"loop 3 while true { set v = v + 1; }", 9, "miss: 3 2 1 / / 4 / ; 3 5"}, {"loop 3 while false { set v = v + 1; }", 9, "miss: 3 2 1 / / 4 / ; 0 5"}, {"loop 0 while true { set v = v + 1; }", 9, "miss: 3 2 1 / / 4 / ; 0 5"},
		{"loop 8 while v < 2 { set v = v + 1; }", 9, "miss: 3 2 1 / / 4 / ; 2 5"}, {"loop cap(a) - 1 while true { set v = v + 1; }", 9, "miss: 3 2 1 / / 4 / ; 2 5"},
		{"loop 2 while true { loop 3 while true { set v = v + 1; } }", 9, "miss: 3 2 1 / / 4 / ; 6 5"}, {"loop 9 while !empty(a) { evict a back; }", 9, "miss 1 2 3: / / 4 / ; 0 5"},
		// Behind the last round nothing is asked.
		{"loop 3 while t(back(a)) == 0 { evict a back; }", 9, "miss 1 2 3: / / 4 / ; 0 5"}, {"loop 4 while t(back(a)) == 0 { evict a back; }", 9, "empty"}, {"loop 0 while t(back(b)) == 0 { }", 9, "miss: 3 2 1 / / 4 / ; 0 5"},
		// An x that goes in a loop: no judgment would take it, but it is done.
		{"loop 3 while true { insert b front; evict b back; }", 9, "miss 9 9 9: 3 2 1 / / 4 / ; 0 5"},
		{"if t(x) == 0 { set v = 1; } else { set v = 2; }", 9, "where"}, {"loop 2 while true { forget; }", 4, "where"}, {"{ { evict b back; } } set v = 1;", 9, "empty"},
	})
}

func TestCall(t *testing.T) {
	const text = things + "rule r { set v = v + 1; } rule s { call r; call r; if full(a) { call r; } } rule stuck { evict b back; } rule out { evict a back; } "
	for inner, want := range map[string]string{
		"call r;": "miss; 1 5", "call r; call r;": "miss; 2 5", "call s;": "miss; 2 5", "loop 3 while true { call r; }": "miss; 3 5", "call s; call r; set w = v;": "miss; 3 3", "call stuck;": "empty; 0 5", "call r; call stuck; call r;": "empty; 0 5",
		"insert a front; call out;": "miss 7; 0 5", "if at(a) { call s; }": "miss; 0 5",
	} {
		m := open(t, text+"on miss { "+inner+" } }", usual())
		if got := tellAnswer(m.Access(7)) + "; " + strings.Trim(fmt.Sprint(m.State().Vars), "[]"); got != want {
			t.Errorf("%s: %s; want %s", inner, got, want)
		}
	}
}

// Each event is that of the queue at which x is.
func TestP1102Events(t *testing.T) {
	const text = `policy p { queue a resident; queue g ghost; queue b resident; queue h ghost; var v = 0 in 0 .. 99;
		on ghost h { set v = 4; } on miss { set v = 5; } on hit b { set v = 3; } on ghost g { set v = 2; } on hit a { set v = 1; } }`
	const fill = "on miss { if empty(a) { insert a front; } else if empty(g) { insert g front; } else if empty(b) { insert b front; } else if empty(h) { insert h front; } else { set v = 5; } }"
	m := open(t, strings.Replace(text, "on miss { set v = 5; }", fill, 1), api.Caps{Size: 9, Queues: []int{2, 2, 2, 2}})
	for key := range uint64(4) {
		m.Access(key)
	}
	for key, want := range []string{"hit; 1", "miss; 2", "hit; 3", "miss; 4", "miss; 5"} {
		if got := tellAnswer(m.Access(uint64(key))) + "; " + fmt.Sprint(m.State().Vars[0]); got != want {
			t.Errorf("%d: %s; want %s", key, got, want)
		}
	}
	if m.Stats() != (api.Stats{Hits: 2, Misses: 7}) {
		t.Errorf("%v", m.Stats())
	}
}

// An event that is not there does nothing; a hit is one all the same.
func TestP1102NoEvent(t *testing.T) {
	m := open(t, "policy p { queue a resident; queue g ghost; on miss { if empty(a) { insert a front; } else { insert g front; } } }", api.Caps{Size: 1, Queues: []int{1, 1}})
	for n, want := range []string{"miss, 5", "miss, 5", "hit, 0", "miss, 0", "full, 5"} {
		key := []uint64{7, 8, 7, 8, 9}[n]
		if got := fmt.Sprintf("%s, %d", tellAnswer(m.Access(key)), m.Steps()); got != want {
			t.Errorf("%d: %s; want %s", key, got, want)
		}
	}
	if tellState(m.State()) != "7 / 8 ; " || m.Stats() != (api.Stats{Hits: 1, Misses: 3}) {
		t.Errorf("%v, %v", m.State(), m.Stats())
	}
	m = open(t, "policy p { queue a resident; }", api.Caps{Size: 1, Queues: []int{1}})
	if a, points := m.Trace(7); !sameAnswer(a, api.Answer{}) || len(points) > 0 || m.Steps() != 0 || m.Stats() != (api.Stats{Misses: 1}) {
		t.Errorf("%v, %v", a, points)
	}
	m = open(t, "policy p { }", api.Caps{Size: 1})
	if a := m.Access(7); !sameAnswer(a, api.Answer{}) || len(m.State().Queues) > 0 || len(m.State().Vars) > 0 || m.Remove(7) != api.RNone {
		t.Errorf("%v, %v", a, m.State())
	}
}

func TestP1104(t *testing.T) {
	for _, c := range []struct {
		doings string
		steps  int
		end    string
	}{
		{"", 0, "w 5"}, {"pass;", 1, "w 5"}, {"pass; pass;", 2, "w 5"}, {"{ }", 1, "w 5"}, {"{ pass; { } }", 3, "w 5"}, {"insert a front;", 1, "w 5"}, {"insert a front; move b back;", 2, "w 5"},
		{"insert a front; shift a back b front;", 2, "w 5"}, {"insert a front; evict a back;", 2, "miss 1"}, {"insert a front; evict a back to g front;", 2, "miss 1"}, {"insert g front; drop g back;", 2, "w 5"}, {"insert g front; forget;", 2, "w 5"},
		{"set w = 1;", 2, "w 1"}, {"set w = v + 1;", 4, "w 1"}, {"set w = -size;", 3, "w -4"}, {"set w = min(total, cap(a));", 4, "w 0"},
		{"insert a front; mark x t = 1;", 4, "w 5"}, {"insert a front; mark back(a) t = t(x) + 1;", 7, "w 5"}, {"insert a front; set w = t(front(a));", 4, "w 0"},
		{"if true { }", 3, "w 5"}, {"if false { pass; }", 2, "w 5"}, {"if false { } else { pass; }", 4, "w 5"}, {"if true { pass; } else { }", 4, "w 5"}, {"if false { } else if true { }", 5, "w 5"},
		{"if true && true { }", 5, "w 5"}, {"if false && true { }", 3, "w 5"}, {"if true || t(x) == 1 { }", 4, "w 5"}, {"if false || full(a) { }", 4, "w 5"}, {"if !empty(a) { }", 3, "w 5"}, {"if len(a) <= 3 { }", 5, "w 5"},
		{"loop 3 while true { }", 1 + 3*2, "w 5"}, {"loop 3 while false { }", 2, "w 5"}, {"loop 0 while true { pass; }", 1, "w 5"}, {"loop 2 * cap(a) while w < 7 { set w = w + 1; }", 1 + 2*(3+1+4) + 3, "w 7"},
		{"call r;", 3, "w 5"}, {"call r; call r;", 6, "w 5"}, {"loop 2 while true { call r; }", 1 + 2*(1+1+3), "w 5"},
		// Up to a trap.
		{"evict a back;", 1, "empty"}, {"evict a back; pass;", 1, "empty"}, {"pass; { pass; move a front; pass; } pass;", 4, "where"}, {"insert a front; insert a front; pass;", 2, "where"},
		{"set w = 1 + t(x) + 2;", 6, "where"}, {"set w = t(back(a)) * len(a);", 4, "empty"}, {"mark back(b) t = 1 / t(x);", 5, "where"}, {"mark back(b) t = 1 / 2;", 5, "empty"}, {"mark x t = 7;", 3, "where"},
		{"if t(x) == 1 { pass; } else { pass; }", 4, "where"}, {"if 1 == t(x) && true { }", 6, "where"}, {"loop 2 while t(x) == 1 { pass; }", 4, "where"}, {"loop 2 while true { pass; forget; pass; }", 5, "where"}, {"loop 3 while true { insert a front; }", 1 + 3 + 3, "where"},
	} {
		wantSteps(t, c.doings, c.steps, c.end)
	}
}

// Steps are those of the last Access or Trace, whatever came of it; no other call changes them.
func TestP1104Last(t *testing.T) {
	m := open(t, things+"on hit a { pass; pass; } on miss { if full(a) { forget; } insert a front; } }", usual())
	if m.Steps() != 0 {
		t.Errorf("%d ahead of all", m.Steps())
	}
	m.Remove(1)
	if m.Steps() != 0 {
		t.Errorf("%d behind a Remove", m.Steps())
	}
	for n, want := range []int{4, 4, 4, 5, 3, 5, 3} {
		key := []uint64{1, 2, 3, 4, 2, 5, 1}[n]
		if n%2 == 0 {
			m.Access(key)
		} else {
			m.Trace(key)
		}
		m.Remove(9)
		m.State()
		m.Stats()
		twin := m.Twin()
		if twin.Access(77); m.Steps() != want {
			t.Errorf("%d: %d steps; want %d", n, m.Steps(), want)
		}
	}
	m.Remove(1)
	if m.Steps() != 3 || m.Twin().Steps() != 3 {
		t.Errorf("%d steps, a twin %d", m.Steps(), m.Twin().Steps())
	}
}

func tellPoints(list []api.Point) string {
	var words []string
	for _, p := range list {
		words = append(words, fmt.Sprint(p.Row, p.Lens, p.Total, p.Place, p.Vars))
	}
	return strings.Join(words, "; ")
}

func TestP1105(t *testing.T) {
	const text = `policy p { queue a resident; queue g ghost; var v = 7 in 0 .. 99; tag t in 1;
		rule r { set v = v - 1; { pass; } }
		on miss { if full(a) { evict a back to g front; } else if v == 7 { call r; } insert a front; mark x t = 1; loop 2 while true { set v = 0; } }
		on ghost g { forget; insert a front; pass; }
		on hit a { } }`
	// Rows: 9 rule, 10 block, 11 set, 12 sub, 15 block, 16 pass; 17 miss, 18 block, 19 if, 20 full, 21 block, 22 evict, 23 place, 24 if, 25 eq, 28 block, 29 call, 30 insert, 31 mark, 32 x, 33 num, 34 loop, 35 num, 36 true, 37 block, 38 set, 39 num; 40 ghost, 41 block, 42 forget, 43 insert, 44 pass.
	m := open(t, text, api.Caps{Size: 2, Queues: []int{1, 2}})
	for _, c := range []struct {
		key    uint64
		answer string
		points string
	}{
		{8, "miss", "19 [0 0] 0 -1 [7]; 24 [0 0] 0 -1 [7]; 29 [0 0] 0 -1 [7]; 11 [0 0] 0 -1 [7]; 16 [0 0] 0 -1 [6]; 30 [0 0] 0 -1 [6]; 31 [1 0] 1 0 [6]; 34 [1 0] 1 0 [6]; 38 [1 0] 1 0 [6]; 38 [1 0] 1 0 [0]"},
		{8, "hit", ""},
		{9, "miss 8", "19 [1 0] 1 -1 [0]; 22 [1 0] 1 -1 [0]; 30 [0 1] 0 -1 [0]; 31 [1 1] 1 0 [0]; 34 [1 1] 1 0 [0]; 38 [1 1] 1 0 [0]; 38 [1 1] 1 0 [0]"},
		{8, "full", "42 [1 1] 1 1 [0]; 43 [1 0] 1 -1 [0]"},
		{7, "miss 9", "19 [1 1] 1 -1 [0]; 22 [1 1] 1 -1 [0]; 30 [0 2] 0 -1 [0]; 31 [1 2] 1 0 [0]; 34 [1 2] 1 0 [0]; 38 [1 2] 1 0 [0]; 38 [1 2] 1 0 [0]"},
		{6, "full", "19 [1 2] 1 -1 [0]; 22 [1 2] 1 -1 [0]"},
	} {
		a, points := m.Trace(c.key)
		if tellAnswer(a) != c.answer || tellPoints(points) != c.points {
			t.Errorf("%d: %s, %s; want %s, %s", c.key, tellAnswer(a), tellPoints(points), c.answer, c.points)
		}
	}
	if n := m.Remove(7); n != api.RResident {
		t.Fatal(n)
	}
	if a, points := m.Trace(8); tellAnswer(a) != "miss" || tellPoints(points) != "42 [0 2] 0 1 [0]; 43 [0 1] 0 -1 [0]; 44 [1 1] 1 0 [0]" {
		t.Errorf("%v, %s", a, tellPoints(points))
	}
	// A doing whose kid traps has begun.
	m = open(t, things+"on miss { pass; set v = t(x); pass; } }", usual())
	if a, points := m.Trace(8); tellAnswer(a) != "where" || len(points) != 2 {
		t.Errorf("%v, %v", a, points)
	}
}

func TestP1106Remove(t *testing.T) {
	for _, c := range []struct {
		key   uint64
		want  int
		state string
	}{
		{1, api.RResident, "3 2 / / 4 / ; 0 5"}, {2, api.RResident, "3 1 / / 4 / ; 0 5"}, {3, api.RResident, "2 1 / / 4 / ; 0 5"}, {4, api.RGhost, "3 2 1 / / / ; 0 5"},
		{9, api.RNone, base}, {0, api.RNone, base}, {math.MaxUint64, api.RNone, base},
	} {
		m := tried(t, 4, "set v = 9;")
		stats := m.Stats()
		if got := m.Remove(c.key); got != c.want || tellState(m.State()) != c.state {
			t.Errorf("%d: %d, %s; want %d, %s", c.key, got, tellState(m.State()), c.want, c.state)
		}
		if c.want != api.RNone {
			stats.Removals++
		}
		if m.Stats() != stats || m.Remove(c.key) != api.RNone || m.Stats() != stats {
			t.Errorf("%d: %v; want %v", c.key, m.Stats(), stats)
		}
	}
	// What was removed is nowhere, and comes again without its tags.
	m := open(t, things+"on hit a { mark x t = t(x) + 1; } on miss { insert a front; } }", usual())
	for _, key := range []uint64{1, 2, 2, 3, 3, 3} {
		m.Access(key)
	}
	m.Remove(2)
	m.Access(2)
	m.Remove(1)
	m.Access(1)
	if tellState(m.State()) != "1 2 3:[2,0] / / / ; 0 5" || m.Stats() != (api.Stats{Hits: 3, Misses: 5, Removals: 2}) {
		t.Errorf("%v, %v", m.State(), m.Stats())
	}
}

func TestP1106State(t *testing.T) {
	m := open(t, things+"on miss { insert g front; } }", usual())
	s := m.State()
	if len(s.Queues) != 4 || !slices.Equal(s.Vars, []int{0, 5}) || slices.ContainsFunc(s.Queues, func(list []api.Entry) bool { return len(list) > 0 }) {
		t.Errorf("%v", s)
	}
	m.Access(math.MaxUint64)
	if s := m.State(); len(s.Queues[2]) != 1 || !sameEntry(s.Queues[2][0], api.Entry{Key: math.MaxUint64, Tags: []int{0, 0}}) {
		t.Errorf("%v", s)
	}
	// Each as many as there may be.
	text, c := "policy p { ", api.Caps{Size: 16}
	inner := ""
	for i := range 16 {
		text += fmt.Sprintf("queue q%d %s; var v%d = %d in 0 .. 99; ", i, []string{"resident", "ghost"}[i%2], i, i)
		inner += fmt.Sprintf("if empty(q%d) { insert q%[1]d front; mark x t%d = %d; set v%[1]d = v%[1]d + 16; } else ", i, i%4, i+1)
		c.Queues = append(c.Queues, 1)
	}
	m = open(t, text+"tag t0 in 20; tag t1 in 20; tag t2 in 20; tag t3 in 20; on miss { "+inner+"{ } } }", c)
	for key := range uint64(17) {
		m.Access(key + 100)
	}
	for i, list := range m.State().Queues {
		tags := make([]int, 4)
		tags[i%4] = i + 1
		if len(list) != 1 || !sameEntry(list[0], api.Entry{Key: uint64(100 + i), Tags: tags}) || m.State().Vars[i] != i+16 {
			t.Errorf("%d: %v, %v", i, list, m.State().Vars)
		}
	}
}

func TestP1101(t *testing.T) {
	right := whole(t, things+"on miss { loop 3 while true { set v = 1; } } }")
	c := usual()
	u, _ := typed.Check(right, c)
	wrong := api.Caps{Size: 0}
	other := api.Typed{Rounds: []int{7}}
	want := func(what string, p api.Policy, u api.Typed, c api.Caps, err api.Errno) {
		t.Helper()
		if m, got := deno.New(p, u, c); got != err || (m == nil) != (err != api.OK) {
			t.Errorf("%s: %v, %v; want %v", what, m != nil, got, err)
		}
	}
	want("all right", right, u, c, api.OK)
	for what, spoil := range map[string]func(p *api.Policy){
		"no rows":          func(p *api.Policy) { *p = api.Policy{} },
		"a tag less":       func(p *api.Policy) { p.Tags = p.Tags[:1] },
		"no miss":          func(p *api.Policy) { p.Miss = -1 },
		"an event":         func(p *api.Policy) { p.On = []int{p.Miss, -1, -1, -1} },
		"a name":           func(p *api.Policy) { p.Name = "other" },
		"a number":         func(p *api.Policy) { p.Rows[1].N = 7 },
		"kids without end": func(p *api.Policy) { p.Rows[0].Kids = math.MaxInt },
		"a row less":       func(p *api.Policy) { p.Rows = p.Rows[:len(p.Rows)-1] },
	} {
		p := right
		p.Rows = slices.Clone(right.Rows)
		spoil(&p)
		want(what, p, u, c, api.ErrShape)
		want(what, p, other, wrong, api.ErrShape)
	}
	for text, err := range map[string]api.Errno{
		"on miss { set v = true; }": api.ErrType, "require 1; ": api.ErrType, "var k = len(a) in 0 .. 9; ": api.ErrConst, "on hit g { }": api.ErrKind, "var k = 9 in 0 .. 8; ": api.ErrRange, "tag k in 0; ": api.ErrRange,
		"on miss { loop 4194305 while true { } }": api.ErrRange, "require size == 5; ": api.ErrRequire, "on miss { shift a back g front; }": api.ErrKind,
	} {
		p := whole(t, things+text+" }")
		want(text, p, api.Typed{}, c, err)
		want(text, p, u, c, err)
	}
	for _, c := range []api.Caps{wrong, {}, {Size: 4, Queues: []int{3, 2, 2}}, {Size: 4, Queues: []int{3, 2, 2, 0}}, {Size: 4, Queues: []int{5, 2, 2, 1}}, {Size: api.MaxCap + 1, Queues: []int{3, 2, 2, 1}}} {
		want(fmt.Sprint(c), right, u, c, api.ErrCaps)
		want(fmt.Sprint(c), right, other, c, api.ErrCaps)
	}
	at := row(t, right, api.NLoop, 0)
	for what, spoil := range map[string]func(u *api.Typed){
		"nothing":            func(u *api.Typed) { *u = api.Typed{} },
		"no vars":            func(u *api.Typed) { u.Vars = nil },
		"a var more":         func(u *api.Typed) { u.Vars = append(slices.Clone(u.Vars), api.Var{}) },
		"another first one":  func(u *api.Typed) { u.Vars = []api.Var{{Init: 1, Lo: -3, Hi: 9}, u.Vars[1]} },
		"another least one":  func(u *api.Typed) { u.Vars = []api.Var{{Lo: -2, Hi: 9}, u.Vars[1]} },
		"another greatest":   func(u *api.Typed) { u.Vars = []api.Var{{Lo: -3, Hi: 10}, u.Vars[1]} },
		"no tags":            func(u *api.Typed) { u.Tags = nil },
		"another tag":        func(u *api.Typed) { u.Tags = []int{3, 254} },
		"a tag more":         func(u *api.Typed) { u.Tags = []int{3, 255, 1} },
		"no rounds":          func(u *api.Typed) { u.Rounds = nil },
		"a round less":       func(u *api.Typed) { u.Rounds[at]-- },
		"a round more":       func(u *api.Typed) { u.Rounds[at]++ },
		"rounds of no loop":  func(u *api.Typed) { u.Rounds[0] = 1 },
		"rounds of no row":   func(u *api.Typed) { u.Rounds = append(u.Rounds, 0) },
		"rounds of too few":  func(u *api.Typed) { u.Rounds = u.Rounds[:len(u.Rounds)-1] },
		"rounds of few more": func(u *api.Typed) { u.Rounds = append(u.Rounds, 1, 2, 3) },
	} {
		v := u
		v.Rounds = slices.Clone(u.Rounds)
		spoil(&v)
		want(what, right, v, c, api.ErrArg)
	}
	// No list and an empty one are the same.
	none := whole(t, "policy p { queue a resident; }")
	want("empty lists", none, api.Typed{Vars: []api.Var{}, Tags: []int{}, Rounds: []int{0, 0}}, api.Caps{Size: 1, Queues: []int{1}}, api.OK)
	want("no lists", none, api.Typed{Rounds: []int{0, 0}}, api.Caps{Size: 1, Queues: []int{1}}, api.OK)
	none.Vars, none.Tags, none.Rules = []string{}, []string{}, []int{}
	want("empty lists of a policy", none, api.Typed{Rounds: []int{0, 0}}, api.Caps{Size: 1, Queues: []int{1}}, api.OK)
}

const lru = "policy lru { queue q resident; on hit q { move q front; } on miss { if full(q) { evict q back; } insert q front; } }"

func TestExamples(t *testing.T) {
	c := api.Caps{Size: 2, Queues: []int{2}}
	m := open(t, lru, c)
	for n, want := range []string{
		"miss; 4 steps; 7 [0] 0 -1 []; 11 [0] 0 -1 []; state 7 ; ",
		"miss; 4 steps; 7 [1] 1 -1 []; 11 [1] 1 -1 []; state 8 7 ; ",
		"hit; 2 steps; 4 [2] 2 0 []; state 7 8 ; ",
		"miss 8; 6 steps; 7 [2] 2 -1 []; 10 [2] 2 -1 []; 11 [1] 1 -1 []; state 9 7 ; ",
	} {
		a, points := m.Trace([]uint64{7, 8, 7, 9}[n])
		if got := fmt.Sprintf("%s; %d steps; %s; state %s", tellAnswer(a), m.Steps(), tellPoints(points), tellState(m.State())); got != want {
			t.Errorf("%d: %s; want %s", n, got, want)
		}
	}
	if n := m.Remove(7); n != api.RResident || tellState(m.State()) != "9 ; " {
		t.Errorf("2.: %d, %v", n, m.State())
	}
	m = open(t, "policy lru { queue q resident; on hit q { move q front; } on miss { insert q front; } }", c)
	m.Access(7)
	m.Access(8)
	if a := m.Access(9); !sameAnswer(a, api.Answer{Trap: api.TFull}) || tellState(m.State()) != "8 7 ; " || m.Stats() != (api.Stats{Misses: 2}) {
		t.Errorf("3.: %v, %v, %v", a, m.State(), m.Stats())
	}
	m = open(t, "policy p { queue q resident; var v = 0 in 0 .. 2; on miss { loop 3 while true { set v = v + 1; } } }", c)
	if m.Access(7); m.Steps() != 20 || tellState(m.State()) != " ; 2" {
		t.Errorf("4.: %d, %v", m.Steps(), m.State())
	}
	m = open(t, "policy p { queue q resident; tag t in 1; on miss { mark back(q) t = 1 / t(x); } }", c)
	if a := m.Access(7); !sameAnswer(a, api.Answer{Trap: api.TWhere}) {
		t.Errorf("5.: %v", a)
	}
}
