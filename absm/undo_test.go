package absm_test

import (
	"fmt"
	"math/rand"
	"runtime"
	"strings"
	"testing"

	"winnow/api"
)

// rounds is a program whose events do something again and again, and then, sometimes, what traps: x stands somewhere.
func rounds(r *rand.Rand) (api.Program, api.Caps) {
	texts := []string{"shift 0 0 0 1", "shift 0 1 0 0", "shift 2 0 2 1", "shift 1 0 1 1", "shift 3 1 3 0", "num %, markx 1", "num %, markx 0", "num %, markend 0 1 0", "num %, markend 1 0 1", "take 0 0, give 0 1", "take 2 1, num %, markend 0 0 1, give 2 0",
		"var 0, num 1, add, set 0", "tagx 1, var 1, add, set 1", "move 0 0", "move 2 1", "shift 0 1 2 0, shift 2 0 0 1", "evict 0 1", "drop 1 0", "shift 1 1 3 0"}
	text := strings.ReplaceAll(filling, "%", fmt.Sprint(r.Intn(2)))
	for q := range 4 {
		text += fmt.Sprintf("q%d: loop %d, T%d: turn E%d, ", q, 1+r.Intn(90), q, q)
		for range 1 + r.Intn(5) {
			text += strings.ReplaceAll(texts[r.Intn(len(texts)-r.Intn(4))], "%", fmt.Sprint(r.Intn(300))) + ", "
		}
		text += fmt.Sprintf("again T%d, E%d: ", q, q)
		if r.Intn(4) > 0 {
			text += "insert 0 0, "
		}
		text += "end, "
	}
	return program(text), wide(r)
}

func TestUndoRounds(t *testing.T) {
	traps, long := map[api.Trap]int{}, 0
	for seed := range int64(1500) {
		r := rand.New(rand.NewSource(seed))
		p, c := rounds(r)
		m, x := open(t, p, c), newPlain(p, c)
		for n := range 80 {
			op := api.Op{Key: uint64(r.Intn(40)), Remove: r.Intn(20) == 0}
			got, want := play(m, op), playPlain(x, op)
			if !same(got, want) {
				t.Fatalf("%s\n%v, operation %d, %v:\n%v; want\n%v", tell(p), c, n, op, got, want)
			}
			traps[got.answer.Trap]++
			if got.answer.Trap != api.TNone && got.used > 500 {
				long++
			}
		}
	}
	if traps[api.TNone] < 50000 || traps[api.TFull] < 500 || traps[api.TEmpty] < 1000 || traps[api.TWhere] < 10000 || long < 1000 {
		t.Errorf("what was met: %v, %d long ones", traps, long)
	}
}

// From a few changes to many, one by one: of each kind, and all of them.
func TestUndoEach(t *testing.T) {
	for _, body := range []string{
		"shift 0 1 0 0", "shift 0 0 0 1", "num 2, markx 0", "num 7, markend 0 0 1, num 8, markend 0 1 1", "move 0 0, move 2 0", "take 1 0, give 1 1", "var 0, num 1, add, set 0",
		"evict 0 1, insert 0 1", "spill 0 1 3 0, forget, insert 2 0, shift 2 0 0 1", "move 2 0, num 3, markx 1, take 2 1, tell, give 3 0, move 0 0", "shift 0 1 2 0, num 1, markx 0, shift 2 0 0 1",
	} {
		for n := range 150 {
			m := tried(t, 4, fmt.Sprintf("num 3, set 1, loop %d, T: turn E, %s, again T, E: insert 3 0", n, body))
			other := m.Twin()
			for range 2 {
				a := m.Access(1)
				if a.Trap == api.TNone || tellState(m.State()) != base || m.Stats() != other.Stats() {
					t.Fatalf("%s, %d times: %v, %s, %v", body, n, a, tellState(m.State()), m.Stats())
				}
			}
			// All keys are found where they are.
			for key, want := range []int{api.RNone, api.RResident, api.RResident, api.RResident, api.RGhost, api.RNone} {
				if got := m.Remove(uint64(key)); got != want {
					t.Fatalf("%s, %d times: Remove(%d) is %d; want %d", body, n, key, got, want)
				}
			}
		}
	}
}

// A run, however long, keeps no more than there was: what it takes does not grow with its rounds.
func TestUndoKeepsLittle(t *testing.T) {
	const text = "loop %d, T: turn E, shift 0 1 0 0, num 1, markx 0, again T, E: evict 2 0"
	allocated := func(n int) uint64 {
		m := tried(t, 4, fmt.Sprintf(text, n))
		var a, b runtime.MemStats
		runtime.ReadMemStats(&a)
		answer := m.Access(2)
		runtime.ReadMemStats(&b)
		if answer.Trap != api.TEmpty || m.Used() != 1+n*5+2 || tellState(m.State()) != base {
			t.Errorf("%d rounds: %v, %d, %s", n, answer, m.Used(), tellState(m.State()))
		}
		return b.TotalAlloc - a.TotalAlloc
	}
	within(t, "a long run", func() {
		if n := allocated(1 << 21); n > 1<<20 {
			t.Errorf("%d bytes", n)
		}
	})
}
