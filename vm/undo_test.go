package vm_test

import (
	"fmt"
	"math/rand"
	"runtime"
	"strings"
	"testing"

	"winnow/api"
	"winnow/vm"
)

// rounds is a program whose events do something again and again, and then, sometimes, what traps: x stands somewhere.
func rounds(r *rand.Rand) (api.Program, api.Caps) {
	texts := []string{"shift 0 0 0 1", "shift 0 1 0 0", "shift 2 0 2 1", "shift 1 0 1 1", "shift 3 1 3 0", "num %, markx 1", "num %, markx 0", "num %, markend 0 1 0", "num %, markend 1 0 1", "take 0 0, give 0 1", "take 2 1, num %, markend 0 0 1, give 2 0",
		"var 0, num 1, add, set 0", "tagx 1, var 1, add, set 1", "move 0 0", "move 2 1", "shift 0 1 2 0, shift 2 0 0 1", "evict 0 1", "drop 1 0", "shift 1 1 3 0"}
	text := strings.ReplaceAll(filling, "%", fmt.Sprint(r.Intn(2)))
	for q := range 4 {
		n := 1 + r.Intn(90)
		if r.Intn(16) == 0 {
			n = vm.Few/4 + r.Intn(vm.Few)
		}
		text += fmt.Sprintf("q%d: loop %d, T%d: turn E%d, ", q, n, q, q)
		for range 1 + r.Intn(5) {
			text += strings.ReplaceAll(texts[r.Intn(len(texts)-r.Intn(4))], "%", fmt.Sprint(r.Intn(300))) + ", "
		}
		text += fmt.Sprintf("again T%d, E%d: ", q, q)
		if r.Intn(4) > 0 {
			text += "insert 0 0, "
		}
		text += "end, "
	}
	return program(text), wide(r)
}

func TestUndoRounds(t *testing.T) {
	traps, long := map[api.Trap]int{}, 0
	for seed := range int64(600) {
		r := rand.New(rand.NewSource(seed))
		p, c := rounds(r)
		m := openBoth(t, p, c)
		for range 80 {
			got := m.play(t, api.Op{Key: uint64(r.Intn(40)), Remove: r.Intn(20) == 0})
			traps[got.answer.Trap]++
			if got.answer.Trap != api.TNone && got.used > 3*vm.Few {
				long++
			}
		}
	}
	if traps[api.TNone] < 20000 || traps[api.TFull] < 200 || traps[api.TEmpty] < 400 || traps[api.TWhere] < 4000 || long < 200 {
		t.Errorf("what was met: %v, %d long ones", traps, long)
	}
}

// counts are of rounds that make from a few changes to many, where each round makes one to five.
func counts() []int {
	list := []int{0, 1, 2, 3, 4, 5, 6, 7, 8, 9, 2 * vm.Few}
	for each := 1; each <= 5; each++ {
		for n := -2; n < 8; n++ {
			list = append(list, vm.Few/each+n)
		}
	}
	return list
}

// From a few changes to many: of each kind, and all of them.
func TestUndoEach(t *testing.T) {
	for _, body := range []string{
		"shift 0 1 0 0", "shift 0 0 0 1", "num 2, markx 0", "num 7, markend 0 0 1, num 8, markend 0 1 1", "move 0 0, move 2 0", "take 1 0, give 1 1", "var 0, num 1, add, set 0",
		"evict 0 1, insert 0 1", "spill 0 1 3 0, forget, insert 2 0, shift 2 0 0 1", "move 2 0, num 3, markx 1, take 2 1, tell, give 3 0, move 0 0", "shift 0 1 2 0, num 1, markx 0, shift 2 0 0 1",
	} {
		for _, n := range counts() {
			m := tried(t, 4, fmt.Sprintf("num 3, set 1, loop %d, T: turn E, %s, again T, E: insert 3 0", n, body))
			other := m.Twin()
			for range 2 {
				a := m.Access(1)
				if a.Trap == api.TNone || tellState(m.State()) != base || m.Stats() != other.Stats() {
					t.Fatalf("%s, %d times: %v, %s, %v", body, n, a, tellState(m.State()), m.Stats())
				}
			}
			wantLaid(t, m, []bool{false, true, false, true}, usual())
			// All keys are found where they are.
			for key, want := range []int{api.RNone, api.RResident, api.RResident, api.RResident, api.RGhost, api.RNone} {
				if got := m.Remove(uint64(key)); got != want {
					t.Fatalf("%s, %d times: Remove(%d) is %d; want %d", body, n, key, got, want)
				}
			}
		}
	}
}

// A run, however long, keeps no more than there was: what it takes does not grow with its rounds.
func TestUndoKeepsLittle(t *testing.T) {
	const text = "loop %d, T: turn E, shift 0 1 0 0, num 1, markx 0, again T, E: evict 2 0"
	allocated := func(n int) uint64 {
		m := tried(t, 4, fmt.Sprintf(text, n))
		var a, b runtime.MemStats
		runtime.ReadMemStats(&a)
		answer := m.Access(2)
		runtime.ReadMemStats(&b)
		if answer.Trap != api.TEmpty || m.Used() != 1+n*5+2 || tellState(m.State()) != base {
			t.Errorf("%d rounds: %v, %d, %s", n, answer, m.Used(), tellState(m.State()))
		}
		return b.TotalAlloc - a.TotalAlloc
	}
	within(t, "a long run", func() {
		if n := allocated(1 << 21); n > 1<<20 {
			t.Errorf("%d bytes", n)
		}
	})
}

// Behind an operation a machine keeps nothing of it, whether it trapped or not, also where it was long.
func TestKeepsNothing(t *testing.T) {
	long := fmt.Sprintf("loop %d, T: turn E, shift 0 1 0 0, again T, E: ", 2*vm.Few)
	for text, trap := range map[string]api.Trap{
		"num 3, num 4, add, set 0, evict 0 1": api.TNone, "loop 3, T: turn E, shift 0 0 0 1, again T, E: insert 0 0": api.TWhere, "evict 0 1, evict 2 0": api.TEmpty,
		long + "evict 0 1": api.TNone, long + "evict 2 0": api.TEmpty,
	} {
		m := tried(t, 4, text)
		if a := m.Access(2); a.Trap != trap || m.Kept() != 0 {
			t.Errorf("%s: %v, %d", text, a, m.Kept())
		}
	}
}

// x, wherever it stood, is brought back there: at an end, beside one, in the middle.
func TestUndoMiddle(t *testing.T) {
	for _, text := range []string{"move 0 0", "move 0 1", "move 2 0", "forget", "move 0 1, move 0 0", "move 2 0, shift 2 0 0 1, move 0 0", "forget, insert 0 0", "forget, insert 3 1, forget", "shift 0 0 0 1, move 0 1, shift 0 1 0 0, move 0 1", "shift 1 0 1 1, forget, shift 1 1 1 0"} {
		p := program(fmt.Sprintf("q0: q1: %s, insert 0 0, move 0 0, evict 2 0, insert 0 0, end, miss: len 0, num 7, lt, else A, insert 0 1, end, A: insert 1 1, end", text))
		m := openBoth(t, p, capsOf(9, 8, 7, 2, 1))
		for key := range uint64(14) {
			m.play(t, api.Op{Key: key})
		}
		for key := range uint64(14) {
			if out := m.play(t, api.Op{Key: key}); out.answer.Trap == api.TNone || tellState(out.state) != "0 1 2 3 4 5 6 / 7 8 9 10 11 12 13 / / ; 0 5" {
				t.Fatalf("%s, of %d: %v", text, key, out)
			}
		}
	}
}
