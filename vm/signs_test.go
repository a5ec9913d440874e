package vm_test

import (
	"fmt"
	"math/big"
	"testing"

	"winnow/api"
)

// wantNumber wants code to give that number, of the Access of 2 in the state in which code is tried.
func wantNumber(t *testing.T, text string, want int) {
	t.Helper()
	m := tried(t, 4, text+", set 1")
	if a := m.Access(2); tellAnswer(a) != "hit" || m.State().Vars[1] != want {
		t.Errorf("%s: %v, %d; want %d", text, a, m.State().Vars[1], want)
	}
}

func TestNumbers(t *testing.T) {
	for text, want := range map[string]int{
		"num 7": 7, "num 0": 0, "num 1073741824": 1 << 30, "num -1073741824": -1 << 30, "size": 4, "cap 0": 3, "cap 1": 2, "cap 2": 2, "cap 3": 1,
		"len 0": 3, "len 1": 1, "len 2": 0, "len 3": 0, "total": 3, "var 0": 0, "var 1": 5, "tagx 0": 0, "tagend 0 1 1": 0,
		"var 1, neg": -5, "var 1, neg, neg": 5, "num 0, neg": 0, "num 1073741824, neg": -1 << 30, "num -1073741824, neg": 1 << 30,
		// The first one is the lower operand.
		"num 7, num 2, sub": 5, "num 2, num 7, sub": -5, "num 7, num 2, div": 3, "num 2, num 7, div": 0, "num 1, num 2, num 3, sub, sub": 2, "num 1, num 2, sub, num 3, sub": -4,
		"num -7, num 2, div": -4, "num 7, num -2, div": -4, "num -7, num -2, div": 3, "num 5, num 0, div": 0, "num -5, num 0, div": 0, "num 0, num 0, div": 0,
		"num 1073741824, num 1, add": 1 << 30, "num 1073741824, num 1, add, num 1, sub": 1<<30 - 1, "num -1073741824, num 1, sub, num 1, add": 1 - 1<<30, "num 1073741824, num 2, mul, num 1, sub": 1<<30 - 1,
		"num 2, num 3, num 4, mul, add": 14, "num 2, num 3, add, num 4, mul": 20, "num 9, num 4, min, num 6, max": 6,
	} {
		wantNumber(t, text, want)
	}
	const marked = "num 1, markx 0, num 9, markx 1, num 7, markend 0 0 1, num 2, markend 0 1 0, num 8, markend 1 1 1, "
	for text, want := range map[string]int{"tagx 0": 1, "tagx 1": 9, "tagend 0 0 0": 0, "tagend 0 0 1": 7, "tagend 0 1 0": 2, "tagend 0 1 1": 0, "tagend 1 0 1": 8, "tagend 1 1 1": 8, "tagend 1 0 0": 0} {
		wantNumber(t, marked+text, want)
	}
}

// reckoned is W3, in whole numbers of any size.
func reckoned(name string, a, b int) int {
	x, y, n := big.NewInt(int64(a)), big.NewInt(int64(b)), new(big.Int)
	switch name {
	case "min", "max":
		n = x
		if x.Cmp(y) < 0 == (name == "max") {
			n = y
		}
	case "mul":
		n.Mul(x, y)
	case "add":
		n.Add(x, y)
	case "sub":
		n.Sub(x, y)
	case "div":
		if b != 0 {
			// What is left over has the sign of what it is divided by.
			left := new(big.Int).Mod(x, new(big.Int).Abs(y))
			if b < 0 && left.Sign() > 0 {
				left.Add(left, y)
			}
			n.Quo(n.Sub(x, left), y)
		}
	}
	return min(max(int(n.Int64()), -1<<30), 1<<30)
}

func TestNumbersAll(t *testing.T) {
	const most = 1 << 30
	list := []int{0, 1, -1, 2, -2, 3, -3, 7, -7, 10, 32767, 32768, -32768, 32769, most, -most, most - 1, 1 - most, most / 2, most/2 + 1, -most / 2}
	for _, name := range []string{"min", "max", "mul", "div", "add", "sub"} {
		for _, a := range list {
			for _, b := range list {
				wantNumber(t, fmt.Sprintf("num %d, num %d, %s", a, b, name), reckoned(name, a, b))
			}
		}
	}
}

// wantBool wants code to give that bool.
func wantBool(t *testing.T, text string, want bool) {
	t.Helper()
	m := tried(t, 4, text+", else E, num 1, set 0, E: num 3, set 1")
	n := map[bool]int{true: 1}[want]
	if a := m.Access(2); tellAnswer(a) != "hit" || m.State().Vars[0] != n {
		t.Errorf("%s: %v, %d; want %d", text, a, m.State().Vars[0], n)
	}
}

func TestBools(t *testing.T) {
	for text, want := range map[string]bool{
		"bool 1": true, "bool 0": false, "bool 1, not": false, "bool 0, not": true, "bool 1, not, not": true, "at 0": true, "at 1": false, "at 2": false, "at 3": false, "at 1, not": true,
		"bool 1, bool 1, eq": true, "bool 1, bool 0, eq": false, "bool 0, bool 1, eq": false, "bool 0, bool 0, eq": true, "at 0, num 1, num 2, lt, eq": true, "at 1, num 1, num 2, lt, eq": false,
		"bool 1, not, bool 0, eq": true, "bool 0, not, at 0, eq": true, "len 0, cap 0, eq": true, "len 1, cap 1, eq": false, "total, size, eq": false,
	} {
		wantBool(t, text, want)
	}
	list := []int{0, 1, -1, 2, 1 << 30, -1 << 30, 1<<30 - 1}
	for _, a := range list {
		for _, b := range list {
			for name, want := range map[string]bool{"eq": a == b, "lt": a < b, "le": a <= b} {
				wantBool(t, fmt.Sprintf("num %d, num %d, %s", a, b, name), want)
			}
		}
	}
}

func TestFlow(t *testing.T) {
	const loop = "loop %d, T: turn E, var 0, num %d, lt, quit E, var 0, num 1, add, set 0, again T, E: num 8, set 1"
	wantDone(t, 4, []done{
		{"jump E, E: num 1, set 0", 2, "hit: 3 2 1 / 4 / / ; 1 5 | 4"},
		{"bool 1, else E, num 1, set 0, E: num 2, set 1", 2, "hit: 3 2 1 / 4 / / ; 1 2 | 7"}, {"bool 0, else E, num 1, set 0, E: num 2, set 1", 2, "hit: 3 2 1 / 4 / / ; 0 2 | 5"},
		{"at 0, else F, num 1, set 0, jump E, F: num 2, set 0, E: num 0, set 1", 2, "hit: 3 2 1 / 4 / / ; 1 0 | 8"}, {"at 0, else F, num 1, set 0, jump E, F: num 2, set 0, E: num 0, set 1", 4, "miss: 3 2 1 / 4 / / ; 2 0 | 7"},
		// An event may end in the middle of its code.
		{"at 0, else F, end, F: num 2, set 0", 2, "hit: 3 2 1 / 4 / / ; 0 5 | 3"}, {"at 0, else F, end, F: num 2, set 0", 4, "miss: 3 2 1 / 4 / / ; 2 5 | 5"},
		// All rounds; till it is false; none.
		{fmt.Sprintf(loop, 3, 9), 2, "hit: 3 2 1 / 4 / / ; 3 8 | 35"}, {fmt.Sprintf(loop, 5, 2), 2, "hit: 3 2 1 / 4 / / ; 2 8 | 29"}, {fmt.Sprintf(loop, 0, 9), 2, "hit: 3 2 1 / 4 / / ; 0 8 | 5"},
		{fmt.Sprintf(loop, 3, 0), 2, "hit: 3 2 1 / 4 / / ; 0 8 | 9"}, {fmt.Sprintf(loop, 3, 3), 2, "hit: 3 2 1 / 4 / / ; 3 8 | 35"}, {fmt.Sprintf(loop, 1, 9), 2, "hit: 3 2 1 / 4 / / ; 1 8 | 15"},
		// Behind the last round nothing is asked.
		{"loop 3, T: turn E, tagend 0 1 0, num 0, eq, quit E, evict 0 1, again T, E: size, set 1", 9, "miss 1 2 3: / 4 / / ; 0 4 | 26"}, {"loop 4, T: turn E, tagend 0 1 0, num 0, eq, quit E, evict 0 1, again T, E: size, set 1", 9, "empty | 24"},
		// A loop in another one is opened anew in each round; what it leaves does not leave the outer one.
		{"loop 2, A: turn D, loop 3, B: turn C, var 0, num 1, add, set 0, again B, C: again A, D: size, set 1", 9, "miss: 3 2 1 / 4 / / ; 6 4 | 49"},
		{"loop 2, A: turn D, loop 3, B: turn C, bool 0, quit C, again B, C: var 0, num 1, add, set 0, again A, D: size, set 1", 9, "miss: 3 2 1 / 4 / / ; 2 4 | 25"},
		{"loop 5, A: turn D, loop 3, B: turn C, var 0, num 1, add, set 0, again B, C: var 0, num 4, lt, quit D, again A, D: size, set 1", 9, "miss: 3 2 1 / 4 / / ; 6 4 | 55"},
		// A loop may begin its next round from several places, and be left from several.
		{"loop 4, T: turn E, var 0, num 1, add, set 0, var 0, num 2, lt, else F, again T, F: var 0, num 3, lt, quit E, again T, E: size, set 1", 9, "miss: 3 2 1 / 4 / / ; 3 4 | 41"},
		// Operands below a loop stay.
		{"num 7, bool 1, loop 2, T: turn E, var 0, num 1, add, set 0, again T, E: else X, set 1, size, X: set 0", 9, "miss: 3 2 1 / 4 / / ; 4 7 | 21"},
		// What is undone has no loops left: the next Access begins anew.
		{"loop 3, T: turn E, insert 2 0, evict 2 1, again T, E: size, set 1", 9, "miss 9 9 9: 3 2 1 / 4 / / ; 0 4 | 17"}, {"loop 2, T: turn E, forget, again T, E: size, set 1", 4, "where | 6"},
	}...)
}

// An Access does not see the operands, the loops, the hand of the one ahead, also where that trapped.
func TestFlowBegins(t *testing.T) {
	m := tried(t, 4, "num 7, num 8, loop 3, T: turn E, take 0 1, give 2 0, again T, E: set 0, set 1")
	for range 3 {
		wantAccess(t, m, 2, "full", 3+4+4+3, base)
	}
	if m.Remove(1) != api.RResident {
		t.Error("1 is resident")
	}
	wantAccess(t, m, 9, "miss", 6, "9 3 2 / 4 / / ; 0 5")
}
