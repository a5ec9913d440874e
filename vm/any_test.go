package vm_test

import (
	"math"
	"math/big"
	"math/rand"
	"slices"
	"testing"

	"winnow/absm"
	"winnow/api"
	"winnow/code"
	"winnow/verify"
	"winnow/vm"
)

func wild(r *rand.Rand) int {
	return []int{math.MinInt, math.MaxInt, -1, 0, 1, 2, 3, 255, 256, -api.MaxNum - 1, api.MaxLoop + 1, r.Intn(50), int(r.Uint64())}[r.Intn(13)]
}

// fit reads W4 sentence by sentence, in whole numbers of any size.
func fit(ghost []bool, c api.Caps) bool {
	if c.Size < 1 || c.Size > 1<<20 || len(c.Queues) != len(ghost) {
		return false
	}
	sums := map[bool]*big.Int{false: new(big.Int), true: new(big.Int)}
	for q, n := range c.Queues {
		if n < 1 || n > 1<<20 || !ghost[q] && n > c.Size {
			return false
		}
		sums[ghost[q]].Add(sums[ghost[q]], big.NewInt(int64(n)))
	}
	lesser := big.NewInt(int64(c.Size))
	if sums[false].Cmp(lesser) < 0 {
		lesser = sums[false]
	}
	return new(big.Int).Add(lesser, sums[true]).Cmp(big.NewInt(1<<22)) <= 0
}

// wantNew wants New to answer the first error that applies, or a machine.
func wantNew(t *testing.T, p api.Program, c api.Caps) api.Errno {
	t.Helper()
	_, fault := verify.Run(p)
	want := fault.Err
	if want == api.OK && !fit(p.Ghost, c) {
		want = api.ErrCaps
	}
	if _, err := absm.New(p, c); err != want {
		t.Fatalf("%s\n%v: absm answers %v; want %v", tell(p), c, err, want)
	}
	m, err := vm.New(p, c)
	if err != want || (m != nil) != (err == api.OK) {
		t.Fatalf("%s\n%v: %v; want %v", tell(p), c, err, want)
	}
	if m == nil {
		return err
	}
	for key := range uint64(9) {
		m.Access(key % 5)
		m.Remove(key % 7)
	}
	m.Twin().State()
	// Of many nodes telling how they lie takes long.
	if nodesOf(p.Ghost, c) < 1000 {
		wantLaid(t, m, p.Ghost, c)
	}
	return err
}

// anyCaps are near those that fit.
func anyCaps(r *rand.Rand, c api.Caps) api.Caps {
	c.Queues = slices.Clone(c.Queues)
	n := []int{0, 1, c.Size, c.Size + 1, 1 << 20, 1<<20 + 1, 1<<20 - 1, -1, wild(r)}[r.Intn(9)]
	switch q := r.Intn(len(c.Queues)); r.Intn(6) {
	case 0:
		c.Size = n
	case 1:
		c.Queues = c.Queues[:q]
	case 2:
		c.Queues = append(c.Queues, 1)
	case 3:
		for q := range c.Queues {
			c.Queues[q] = 1 << 20
		}
	default:
		c.Queues[q] = n
	}
	return c
}

// Any programs and any capacities (P1, P4, P6).
func TestP1Any(t *testing.T) {
	got := map[api.Errno]int{}
	for seed := range int64(3000) {
		p, c, r := chance(t, seed+90000)
		got[wantNew(t, p, anyCaps(r, c))]++
		for range 4 {
			q := code.Twin(p)
			spoil(r, &q)
			got[wantNew(t, q, c)]++
			got[wantNew(t, q, anyCaps(r, c))]++
		}
	}
	for _, err := range []api.Errno{api.OK, api.ErrCaps, api.ErrProg, api.ErrOperand, api.ErrDead, api.ErrHand, api.ErrStack, api.ErrMix, api.ErrJump, api.ErrEnd} {
		if got[err] < 50 {
			t.Errorf("%v: %d times", err, got[err])
		}
	}
}

func TestP1Wild(t *testing.T) {
	for seed := range int64(3000) {
		r := rand.New(rand.NewSource(seed))
		p := api.Program{Ghost: make([]bool, r.Intn(20)), Vars: make([]api.Var, r.Intn(20)), Tags: make([]int, r.Intn(7)), On: make([]int, r.Intn(20)), Miss: wild(r), Code: make([]api.Instr, r.Intn(20))}
		for i := range p.Tags {
			p.Tags[i] = wild(r)
		}
		for i := range p.On {
			p.On[i] = wild(r)
		}
		for i := range p.Code {
			p.Code[i] = api.Instr{Op: wild(r), A: wild(r), B: wild(r), C: wild(r), D: wild(r)}
		}
		c := api.Caps{Size: wild(r), Queues: make([]int, r.Intn(20))}
		for q := range c.Queues {
			c.Queues[q] = wild(r)
		}
		wantNew(t, p, c)
	}
}
