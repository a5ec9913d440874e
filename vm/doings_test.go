package vm_test

import (
	"fmt"
	"testing"

	"winnow/api"
	"winnow/vm"
)

func usual() api.Caps { return capsOf(4, 3, 2, 2, 1) }

// The state in which code is tried: queue 0 is full, 1 has one, 2 and 3 are empty.
const base = "3 2 1 / 4 / / ; 0 5"

// aheadOf is what the miss does till that state is reached, and how many instructions it takes then.
const (
	aheadOf = "miss: total, num 3, lt, else ONE, insert 0 0, end, ONE: len 1, num 0, eq, else TWO, insert 1 0, end, TWO: q0: q1: q2: q3: "
	before  = 8
)

// tried is a machine in that state; the code is done on each event.
func tried(t *testing.T, size int, text string) *vm.Machine {
	t.Helper()
	c := usual()
	c.Size = size
	m := open(t, program(aheadOf+text+", end"), c)
	for key := range uint64(4) {
		m.Access(key + 1)
	}
	if s := tellState(m.State()); s != base {
		t.Fatal(s)
	}
	return m
}

// done is some code, the key that is asked for (1, 2, 3 are at 0, 4 is at 1, 9 is nowhere), and what comes of it: the answer, the state behind it (but of a trap, which leaves it), and how many instructions were begun.
type done struct {
	text string
	key  uint64
	want string
}

func wantDone(t *testing.T, size int, list ...done) {
	t.Helper()
	for _, d := range list {
		m := tried(t, size, d.text)
		stats := m.Stats()
		a := m.Access(d.key)
		got := tellAnswer(a)
		if s := tellState(m.State()); a.Trap == api.TNone || s != base {
			got += ": " + s
		}
		used := m.Used()
		if d.key == 9 {
			used -= before
		}
		if got += fmt.Sprint(" | ", used); got != d.want {
			t.Errorf("%s, of %d: %s; want %s", d.text, d.key, got, d.want)
		}
		if a.Trap == api.TNone {
			stats.Evictions += len(a.Evicted)
			if a.Hit {
				stats.Hits++
			} else {
				stats.Misses++
			}
		}
		wantStats(t, m, stats)
		c := usual()
		c.Size = size
		wantLaid(t, m, []bool{false, true, false, true}, c)
	}
}

func TestInsert(t *testing.T) {
	wantDone(t, 4, []done{
		{"insert 2 0", 9, "miss: 3 2 1 / 4 / 9 / ; 0 5 | 2"}, {"insert 2 1", 9, "miss: 3 2 1 / 4 / 9 / ; 0 5 | 2"},
		{"insert 1 0", 9, "miss: 3 2 1 / 9 4 / / ; 0 5 | 2"}, {"insert 1 1", 9, "miss: 3 2 1 / 4 9 / / ; 0 5 | 2"},
		{"insert 0 0", 9, "full | 1"}, {"insert 0 1", 9, "full | 1"},
		{"evict 0 1, insert 0 0", 9, "miss 1: 9 3 2 / 4 / / ; 0 5 | 3"}, {"evict 0 0, insert 0 1", 9, "miss 3: 2 1 9 / 4 / / ; 0 5 | 3"},
		{"insert 2 0", 2, "where | 1"}, {"insert 0 0", 2, "where | 1"}, {"insert 2 0", 4, "where | 1"}, {"insert 0 0", 4, "where | 1"}, {"insert 1 0", 4, "where | 1"},
		{"insert 2 0, insert 2 0", 9, "where | 2"}, {"insert 2 0, insert 0 0", 9, "where | 2"}, {"insert 1 0, insert 2 0", 9, "where | 2"},
		{"spill 0 1 3 0, insert 3 0", 9, "full | 2"},
		{"insert 2 0, evict 2 0, insert 1 0", 9, "miss 9: 3 2 1 / 9 4 / / ; 0 5 | 4"},
		{"forget, insert 2 0", 4, "miss: 3 2 1 / / 4 / ; 0 5 | 3"}, {"forget, insert 0 0", 4, "full | 2"},
		{"insert 1 0, num 2, markx 0, shift 1 0 3 1, forget, insert 3 0", 9, "miss: 3 2 1 / 4 / / 9 ; 0 5 | 7"},
	}...)
	// Size is reached: a resident queue has no room, a ghost queue has.
	wantDone(t, 3, []done{
		{"insert 2 0", 9, "full | 1"}, {"insert 2 1", 9, "full | 1"}, {"insert 3 0", 9, "miss: 3 2 1 / 4 / / 9 ; 0 5 | 2"},
		{"evict 0 1, insert 2 0", 9, "miss 1: 3 2 / 4 / 9 / ; 0 5 | 3"}, {"insert 2 0", 2, "where | 1"},
	}...)
}

func TestMove(t *testing.T) {
	wantDone(t, 4, []done{
		{"move 0 0", 2, "hit: 2 3 1 / 4 / / ; 0 5 | 2"}, {"move 0 1", 2, "hit: 3 1 2 / 4 / / ; 0 5 | 2"},
		{"move 0 0", 3, "hit: 3 2 1 / 4 / / ; 0 5 | 2"}, {"move 0 1", 3, "hit: 2 1 3 / 4 / / ; 0 5 | 2"},
		{"move 0 0", 1, "hit: 1 3 2 / 4 / / ; 0 5 | 2"}, {"move 0 1", 1, "hit: 3 2 1 / 4 / / ; 0 5 | 2"},
		{"move 2 0", 2, "hit: 3 1 / 4 / 2 / ; 0 5 | 2"}, {"move 2 1, move 0 0", 2, "hit: 2 3 1 / 4 / / ; 0 5 | 3"},
		{"shift 0 0 2 0, move 2 0", 1, "hit: 2 / 4 / 1 3 / ; 0 5 | 3"}, {"shift 0 0 2 0, move 2 1", 1, "hit: 2 / 4 / 3 1 / ; 0 5 | 3"},
		{"shift 0 0 2 0, shift 0 0 2 0, move 2 1", 1, "full | 3"},
		{"move 2 0", 4, "miss: 3 2 1 / / 4 / ; 0 5 | 2"}, {"move 0 0", 4, "full | 1"}, {"evict 0 1, move 0 1", 4, "miss 1: 3 2 4 / / / ; 0 5 | 3"},
		{"move 0 0", 9, "where | 1"}, {"move 2 0", 9, "where | 1"}, {"insert 2 0, move 2 1", 9, "miss: 3 2 1 / 4 / 9 / ; 0 5 | 3"},
	}...)
	// x itself counts no more when room is asked for.
	wantDone(t, 3, []done{
		{"move 2 0", 2, "hit: 3 1 / 4 / 2 / ; 0 5 | 2"}, {"move 0 0", 2, "hit: 2 3 1 / 4 / / ; 0 5 | 2"}, {"move 2 0", 4, "full | 1"},
		{"evict 0 1, move 2 0", 4, "miss 1: 3 2 / / 4 / ; 0 5 | 3"}, {"move 2 0", 9, "where | 1"},
	}...)
}

func TestForget(t *testing.T) {
	wantDone(t, 4, []done{
		{"forget", 4, "miss: 3 2 1 / / / ; 0 5 | 2"}, {"forget", 2, "where | 1"}, {"forget", 9, "where | 1"}, {"forget, forget", 4, "where | 2"},
		{"insert 3 0, forget", 9, "miss: 3 2 1 / 4 / / ; 0 5 | 3"}, {"insert 2 0, forget", 9, "where | 2"}, {"move 2 0, forget", 4, "where | 2"},
		{"spill 0 1 1 1, forget", 1, "hit 1: 3 2 / 4 / / ; 0 5 | 3"}, {"spill 0 1 1 1, forget", 4, "miss 1: 3 2 / 1 / / ; 0 5 | 3"},
	}...)
}

// In small parts, and at once.
func TestShift(t *testing.T) {
	wantDone(t, 4, []done{
		{"shift 0 1 0 0", 9, "miss: 1 3 2 / 4 / / ; 0 5 | 2"}, {"shift 0 0 0 1", 9, "miss: 2 1 3 / 4 / / ; 0 5 | 2"},
		{"shift 0 0 0 0", 9, "miss: 3 2 1 / 4 / / ; 0 5 | 2"}, {"shift 0 1 0 1", 9, "miss: 3 2 1 / 4 / / ; 0 5 | 2"},
		{"take 0 1, give 0 0", 9, "miss: 1 3 2 / 4 / / ; 0 5 | 3"}, {"take 0 0, give 0 1", 9, "miss: 2 1 3 / 4 / / ; 0 5 | 3"},
		{"shift 0 1 2 0, shift 0 1 2 0", 9, "miss: 3 / 4 / 2 1 / ; 0 5 | 3"}, {"shift 0 1 2 1, shift 0 0 2 1", 9, "miss: 2 / 4 / 1 3 / ; 0 5 | 3"},
		{"shift 0 1 2 0, shift 0 1 2 0, shift 0 1 2 0", 9, "full | 3"}, {"shift 2 1 0 0", 9, "empty | 1"}, {"shift 2 0 2 0", 9, "empty | 1"},
		{"take 0 1, give 2 0, take 0 1, give 2 0, take 0 1, give 2 0", 9, "full | 6"}, {"take 2 1, give 0 0", 9, "empty | 1"}, {"take 2 0, give 2 0", 9, "empty | 1"},
		{"shift 0 1 2 0, shift 2 1 0 0, shift 2 1 0 0", 9, "empty | 3"}, {"shift 0 1 2 1, insert 0 0, shift 2 0 0 0", 9, "full | 3"}, {"shift 0 1 2 1, insert 0 0, take 2 0, give 0 0", 9, "full | 4"},
		{"shift 1 1 3 0", 9, "miss: 3 2 1 / / / 4 ; 0 5 | 2"}, {"shift 1 0 1 1", 4, "miss: 3 2 1 / 4 / / ; 0 5 | 2"}, {"shift 3 0 1 0", 9, "empty | 1"},
		{"take 1 1, give 3 0", 9, "miss: 3 2 1 / / / 4 ; 0 5 | 3"}, {"take 1 0, give 1 1", 4, "miss: 3 2 1 / 4 / / ; 0 5 | 3"}, {"take 3 0, give 1 0", 9, "empty | 1"},
		{"insert 3 0, shift 1 0 3 0", 9, "full | 2"}, {"insert 3 0, shift 3 1 3 0", 9, "miss: 3 2 1 / 4 / / 9 ; 0 5 | 3"},
		{"shift 0 1 2 0", 1, "hit: 3 2 / 4 / 1 / ; 0 5 | 2"}, {"shift 1 1 3 0, forget", 4, "miss: 3 2 1 / / / ; 0 5 | 3"},
	}...)
	// What is in the hand counts no more when room is asked for.
	wantDone(t, 3, []done{
		{"shift 0 1 2 0", 9, "miss: 3 2 / 4 / 1 / ; 0 5 | 2"}, {"shift 0 1 0 0", 9, "miss: 1 3 2 / 4 / / ; 0 5 | 2"}, {"take 0 1, give 2 0", 9, "miss: 3 2 / 4 / 1 / ; 0 5 | 3"},
	}...)
}

func TestEvict(t *testing.T) {
	wantDone(t, 4, []done{
		{"evict 0 1", 9, "miss 1: 3 2 / 4 / / ; 0 5 | 2"}, {"evict 0 0", 9, "miss 3: 2 1 / 4 / / ; 0 5 | 2"},
		{"take 0 1, tell, loose", 9, "miss 1: 3 2 / 4 / / ; 0 5 | 4"}, {"take 0 0, tell, loose", 9, "miss 3: 2 1 / 4 / / ; 0 5 | 4"},
		{"evict 0 0, evict 0 1", 9, "miss 3 1: 2 / 4 / / ; 0 5 | 3"}, {"evict 0 1, evict 0 1, evict 0 1", 9, "miss 1 2 3: / 4 / / ; 0 5 | 4"},
		{"evict 0 1, evict 0 1, evict 0 1, evict 0 1", 9, "empty | 4"}, {"evict 2 1", 9, "empty | 1"}, {"evict 2 0", 2, "empty | 1"}, {"take 2 0, tell, loose", 2, "empty | 1"},
		{"evict 0 1", 1, "hit 1: 3 2 / 4 / / ; 0 5 | 2"}, {"evict 0 1, insert 2 0, evict 2 1", 1, "hit 1 1: 3 2 / 4 / / ; 0 5 | 4"},
		{"evict 0 1, insert 2 0", 1, "hit 1: 3 2 / 4 / 1 / ; 0 5 | 3"},
	}...)
}

func TestSpill(t *testing.T) {
	wantDone(t, 4, []done{
		{"spill 0 1 1 0", 9, "miss 1: 3 2 / 1 4 / / ; 0 5 | 2"}, {"spill 0 0 1 1", 9, "miss 3: 2 1 / 4 3 / / ; 0 5 | 2"},
		{"take 0 1, tell, give 1 0", 9, "miss 1: 3 2 / 1 4 / / ; 0 5 | 4"}, {"take 0 0, tell, give 1 1", 9, "miss 3: 2 1 / 4 3 / / ; 0 5 | 4"},
		{"spill 0 1 1 1, spill 0 0 3 0", 9, "miss 1 3: 2 / 4 1 / / 3 ; 0 5 | 3"}, {"spill 0 1 3 0, spill 0 1 3 0", 9, "full | 2"},
		{"spill 0 1 1 0, spill 0 1 1 0", 9, "full | 2"}, {"spill 2 1 3 0", 9, "empty | 1"}, {"insert 3 0, spill 2 1 3 0", 9, "empty | 2"}, {"spill 0 1 1 0, take 0 1, tell, give 1 0", 9, "full | 4"},
		{"spill 0 1 1 0, forget", 1, "hit 1: 3 2 / 4 / / ; 0 5 | 3"}, {"spill 0 1 1 0, move 0 0", 1, "hit 1: 1 3 2 / 4 / / ; 0 5 | 3"},
	}...)
	// Ghost queues have room when Size is reached.
	wantDone(t, 3, done{"spill 0 1 1 0, insert 2 0, spill 0 1 3 1", 9, "miss 1 2: 3 / 1 4 / 9 / 2 ; 0 5 | 4"})
}

func TestDrop(t *testing.T) {
	wantDone(t, 4, []done{
		{"drop 1 1", 9, "miss: 3 2 1 / / / ; 0 5 | 2"}, {"drop 1 0", 4, "miss: 3 2 1 / / / ; 0 5 | 2"}, {"drop 3 1", 9, "empty | 1"}, {"drop 1 1, drop 1 1", 9, "empty | 2"},
		{"take 1 1, loose", 9, "miss: 3 2 1 / / / ; 0 5 | 3"}, {"take 3 1, loose", 9, "empty | 1"}, {"take 1 0, loose, insert 2 0", 4, "miss: 3 2 1 / / 4 / ; 0 5 | 4"},
		{"insert 1 0, drop 1 1", 9, "miss: 3 2 1 / 9 / / ; 0 5 | 3"}, {"insert 1 0, drop 1 0", 9, "miss: 3 2 1 / 4 / / ; 0 5 | 3"}, {"drop 1 1, insert 2 0", 4, "miss: 3 2 1 / / 4 / ; 0 5 | 3"},
	}...)
}

func TestMark(t *testing.T) {
	wantDone(t, 4, []done{
		{"num 2, markx 0", 2, "hit: 3 2:[2,0] 1 / 4 / / ; 0 5 | 3"}, {"num 255, markx 1", 4, "miss: 3 2 1 / 4:[0,255] / / ; 0 5 | 3"},
		{"num 1, markend 0 0 0, num 7, markend 0 1 1", 9, "miss: 3:[1,0] 2 1:[0,7] / 4 / / ; 0 5 | 5"},
		{"num 4, markx 0", 2, "hit: 3 2:[3,0] 1 / 4 / / ; 0 5 | 3"}, {"num 3, markx 0, num -1, markx 0", 2, "hit: 3 2 1 / 4 / / ; 0 5 | 5"}, {"num 256, markx 1", 2, "hit: 3 2:[0,255] 1 / 4 / / ; 0 5 | 3"},
		{"num 1073741824, markx 1, num -1073741824, markx 0", 2, "hit: 3 2:[0,255] 1 / 4 / / ; 0 5 | 5"}, {"num 256, markend 0 1 1, num -256, markend 0 1 0", 2, "hit: 3 2 1:[0,255] / 4 / / ; 0 5 | 5"},
		{"num 4, markend 0 0 0, num 257, markend 0 0 1", 2, "hit: 3:[3,255] 2 1 / 4 / / ; 0 5 | 5"},
		{"num 2, markend 1 0 0, tagend 1 0 0, num 1, add, markend 1 1 0", 9, "miss: 3 2 1 / 4:[3,0] / / ; 0 5 | 7"},
		{"num 1, markx 0", 9, "where | 2"}, {"num 1, markend 2 0 0", 9, "empty | 2"}, {"num 1, markend 3 1 0", 2, "empty | 2"},
		{"tagx 0, markend 2 1 0", 9, "where | 1"}, {"tagend 2 1 0, markx 0", 9, "empty | 1"}, {"tagx 0, markend 2 1 0", 2, "empty | 2"},
		{"insert 2 0, num 1, markx 0", 9, "miss: 3 2 1 / 4 / 9:[1,0] / ; 0 5 | 4"}, {"forget, num 1, markx 0", 4, "where | 3"}, {"evict 0 1, num 1, markx 0", 1, "where | 3"},
		// Tags go where their entries go.
		{"num 2, markx 0, move 2 0", 2, "hit: 3 1 / 4 / 2:[2,0] / ; 0 5 | 4"}, {"num 9, markx 1, move 2 0", 4, "miss: 3 2 1 / / 4:[0,9] / ; 0 5 | 4"},
		{"num 2, markend 0 1 0, shift 0 1 2 0, shift 2 1 0 0", 9, "miss: 1:[2,0] 3 2 / 4 / / ; 0 5 | 5"}, {"num 1, markend 0 1 0, spill 0 1 1 0", 9, "miss 1: 3 2 / 1:[1,0] 4 / / ; 0 5 | 4"},
		{"num 1, markx 0, forget, insert 2 0", 4, "miss: 3 2 1 / / 4 / ; 0 5 | 5"}, {"num 3, markend 0 1 0, evict 0 1, insert 0 1", 9, "miss 1: 3 2 9 / 4 / / ; 0 5 | 5"},
		// Traps undo them.
		{"num 1, markx 0, num 7, markend 0 0 1, shift 0 1 0 0, spill 0 1 3 0, forget, forget", 2, "where | 8"},
	}...)
}

func TestSet(t *testing.T) {
	wantDone(t, 4, []done{
		{"num 7, set 0", 9, "miss: 3 2 1 / 4 / / ; 7 5 | 3"}, {"num 9, set 0, var 0, set 1", 2, "hit: 3 2 1 / 4 / / ; 9 9 | 5"}, {"num 10, set 0", 9, "miss: 3 2 1 / 4 / / ; 9 5 | 3"},
		{"num -3, set 0", 9, "miss: 3 2 1 / 4 / / ; -3 5 | 3"}, {"num -4, set 0", 9, "miss: 3 2 1 / 4 / / ; -3 5 | 3"}, {"num 1073741824, set 0, var 0, num 1, sub, set 1", 9, "miss: 3 2 1 / 4 / / ; 9 8 | 7"},
		{"num 7, set 0, tagx 0, set 1", 9, "where | 3"}, {"tagend 2 1 0, set 0", 9, "empty | 1"}, {"num 3, set 0, num 4, set 1, evict 2 1", 9, "empty | 5"},
	}...)
}

// What is told of the state while an entry is in the hand: it is at no queue, and not of total.
func TestHand(t *testing.T) {
	wantDone(t, 4, []done{
		{"take 0 1, len 0, set 0, total, set 1, give 0 0", 9, "miss: 1 3 2 / 4 / / ; 2 2 | 7"}, {"take 1 0, len 1, set 0, total, set 1, loose", 9, "miss: 3 2 1 / / / ; 0 3 | 7"},
		{"take 0 1, tell, len 0, set 0, total, set 1, give 3 0", 9, "miss 1: 3 2 / 4 / / 1 ; 2 2 | 8"},
		{"take 0 1, at 0, give 0 1, else E, num 1, set 0, E: at 0, else F, num 2, set 1, F: forget", 1, "where | 9"},
		{"take 0 1, at 0, give 0 1, else E, num 1, set 0, E: at 0, else F, num 2, set 1, F: num 0, markx 0", 1, "hit: 3 2 1 / 4 / / ; 0 2 | 11"},
		{"take 0 1, at 0, give 0 1, else E, num 1, set 0, E: jump F, F: num 0, markx 0", 2, "hit: 3 2 1 / 4 / / ; 1 5 | 10"},
		{"take 0 1, tagx 1, set 0, give 0 1", 1, "where | 2"}, {"take 0 1, num 7, markx 1, give 0 1", 1, "where | 3"}, {"take 0 1, num 7, markx 1, give 0 0", 2, "hit: 1 3 2:[0,7] / 4 / / ; 0 5 | 5"},
		{"take 0 1, tagend 0 1 0, set 1, num 3, markend 0 1 0, give 0 1", 9, "miss: 3 2:[3,0] 1 / 4 / / ; 0 0 | 7"}, {"take 1 1, tagend 1 0 0, set 1, loose", 9, "empty | 2"}, {"take 1 1, num 0, markend 1 0 0, loose", 9, "empty | 3"},
		{"num 2, markend 0 1 1, take 0 1, tell, give 3 1, tagend 3 0 1, set 1", 9, "miss 1: 3 2 / 4 / / 1:[0,2] ; 0 2 | 8"},
		{"num 6, set 1, take 0 0, num 4, set 0, var 0, var 1, mul, set 1, give 2 1", 9, "miss: 2 1 / 4 / 3 / ; 4 24 | 11"},
	}...)
}

// Where x is, as it goes.
func TestAt(t *testing.T) {
	const report = ", at 0, else A, num 1, set 0, A: at 1, else B, num 2, set 0, B: at 2, else C, num 3, set 0, C: at 3, else D, num 4, set 0, D: size, set 1"
	for text, c := range map[string]struct {
		key  uint64
		want int
	}{
		"jump X, X: size, set 1": {9, 0}, "cap 0, set 1": {2, 1}, "cap 1, set 1": {4, 2}, "insert 2 0": {9, 3}, "insert 3 0": {9, 4}, "move 2 0": {2, 3}, "shift 0 1 2 0": {1, 3}, "spill 0 1 3 0": {1, 4}, "evict 0 1": {1, 0},
		"forget": {4, 0}, "drop 1 0": {4, 0}, "evict 0 0": {2, 1}, "take 0 1, give 2 1": {1, 3}, "take 1 1, give 3 1": {4, 4}, "shift 0 1 0 0": {2, 1}, "evict 0 1, insert 3 0": {1, 4}, "take 0 1, tell, loose, insert 2 0": {1, 3},
	} {
		m := tried(t, 4, text+report)
		if a := m.Access(c.key); a.Trap != api.TNone || m.State().Vars[0] != c.want {
			t.Errorf("%s, of %d: %v, %d; want %d", text, c.key, a, m.State().Vars[0], c.want)
		}
	}
}
