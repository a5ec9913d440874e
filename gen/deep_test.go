package gen_test

import (
	"slices"
	"testing"
	"time"

	"winnow/api"
	"winnow/rule"
)

// most is how many rows a plan may have.
const most = 131072

// chain is so many of the same rows, one behind the other: each below the one ahead, if they have as many kids.
func chain(n int, rows ...api.Act) []api.Act { return slices.Repeat(rows, n) }

// head is a row whose kids are to follow.
func head(kind, kids int, numbers ...int) api.Act {
	a := mk(kind, numbers...).Act
	a.Kids = kids
	return a
}

// one is rows as a list.
func one(rows ...api.Act) []api.Act { return rows }

var (
	inBlock  = head(api.RBlock, 1)
	branch   = head(api.RIf, 2)
	branches = head(api.RIf, 3)
	round    = head(api.RLoop, 2, 1)
	setOne   = head(api.RSet, 1, 1)
	not, neg = head(api.RNot, 1), head(api.RNeg, 1)
	and, or  = head(api.RAnd, 2), head(api.ROr, 2)
	here     = head(api.RAt, 0)
	empty    = head(api.RBlock, 0)
	forget   = head(api.RForget, 0)
)

// wantDeep wants the code of so many rows to be that, IEnd behind it, in a moment.
func wantDeep(t *testing.T, what string, want func(at int) api.Instr, length int, rows ...[]api.Act) {
	t.Helper()
	p := plan(slices.Concat(rows...))
	if rule.Check(p) != api.OK || len(p.Miss) < 100000 {
		t.Fatalf("%s: %v, %d rows", what, rule.Check(p), len(p.Miss))
	}
	start := time.Now()
	x := program(t, p)
	_, from := origin(t, p)
	if took := time.Since(start); took > 10*time.Second {
		t.Errorf("%s took %v", what, took)
	}
	if len(x.Code) != length+1 || len(from) != length+1 || len(x.Code) >= 2*len(p.Miss) || len(x.Code) > api.MaxCode {
		t.Fatalf("%s: %d instructions, of %d rows; want %d", what, len(x.Code), len(p.Miss), length+1)
	}
	for at, i := range x.Code[:length] {
		if i != want(at) {
			t.Fatalf("%s: %d: %v; want %v", what, at, i, want(at))
		}
	}
	if x.Code[length] != (api.Instr{Op: api.IEnd}) || from[length] != 0 {
		t.Fatalf("%s: %v, %d at the end", what, x.Code[length], from[length])
	}
}

// again is code that comes again and again: first some, then n times each round, told by its number, then the last.
func again(first []api.Instr, n int, each func(round int) []api.Instr, last ...api.Instr) (want func(at int) api.Instr, length int) {
	code := slices.Clone(first)
	for round := range n {
		code = append(code, each(round)...)
	}
	code = append(code, last...)
	return func(at int) api.Instr { return code[at] }, len(code)
}

func TestDeepSigns(t *testing.T) {
	at, otherwise := api.Instr{Op: api.IAt}, api.Instr{Op: api.IElse}
	n := most - 4
	otherwise.A = n + 2
	want, length := again([]api.Instr{at}, n, func(int) []api.Instr { return []api.Instr{{Op: api.INot}} }, otherwise)
	wantDeep(t, "nots", want, length, one(inBlock, branch), chain(n, not), one(here, empty))
	n = most - 3
	want, length = again([]api.Instr{{Op: api.IVar, A: 1}}, n, func(int) []api.Instr { return []api.Instr{{Op: api.INeg}} }, api.Instr{Op: api.ISet, A: 1})
	wantDeep(t, "negatives", want, length, one(inBlock, setOne), chain(n, neg), acts("var 1"))
	n = 65000
	otherwise.A = 4*n + 2
	want, length = again([]api.Instr{at}, n, func(k int) []api.Instr {
		return []api.Instr{{Op: api.IElse, A: 4*k + 4}, at, {Op: api.IJump, A: 4*k + 5}, {Op: api.IBool}}
	}, otherwise)
	wantDeep(t, "ands to the left", want, length, one(inBlock, branch), chain(n, and), chain(n+1, here), one(empty))
	// The k-th or's second kid goes on to the very end; and all ends there.
	want, length = again(nil, n, func(k int) []api.Instr {
		return []api.Instr{at, {Op: api.IElse, A: 4*k + 4}, {Op: api.IBool, A: 1}, {Op: api.IJump, A: 4*n + 1}}
	}, at, otherwise)
	wantDeep(t, "ors to the right", want, length, one(inBlock, branch), chain(n, or, here), one(here, empty))
}

func TestDeepDoings(t *testing.T) {
	at, gone := api.Instr{Op: api.IAt}, api.Instr{Op: api.IForget}
	nothing, _ := again(nil, 0, nil)
	wantDeep(t, "blocks", nothing, 0, chain(most-1, inBlock), one(empty))
	wantDeep(t, "blocks side by side", nothing, 0, one(head(api.RBlock, most-1)), chain(most-1, empty))
	want, length := again(nil, most-1, func(int) []api.Instr { return []api.Instr{gone} })
	wantDeep(t, "doings side by side", want, length, one(head(api.RBlock, most-1)), chain(most-1, forget))
	n := most/3 - 1
	want, length = again(nil, n, func(int) []api.Instr { return []api.Instr{at, {Op: api.IElse, A: 2*n + 1}} }, gone)
	wantDeep(t, "ifs", want, length, chain(n, inBlock, branch, here), one(inBlock, forget))
	n = most/4 - 1
	want, length = again(nil, n, func(k int) []api.Instr {
		return []api.Instr{at, {Op: api.IElse, A: 3*k + 3}, {Op: api.IJump, A: 3*n + 1}}
	}, gone)
	wantDeep(t, "elses", want, length, chain(n, inBlock, branches, here, empty), one(inBlock, forget))
}

// As many loops as may be, beside one another and in one another: no plan has more code.
func TestDeepLoops(t *testing.T) {
	at := api.Instr{Op: api.IAt}
	n := most / 3
	want, length := again(nil, n, func(k int) []api.Instr {
		return []api.Instr{{Op: api.ILoop, A: 1}, {Op: api.ITurn, A: 5*k + 5}, at, {Op: api.IQuit, A: 5*k + 5}, {Op: api.IAgain, A: 5*k + 1}}
	})
	wantDeep(t, "loops side by side", want, length, one(head(api.RBlock, n)), chain(n, round, here, empty))
	code := make([]api.Instr, 0, 5*n)
	for k := range n {
		code = append(code, api.Instr{Op: api.ILoop, A: 1}, api.Instr{Op: api.ITurn, A: 5*n - k}, at, api.Instr{Op: api.IQuit, A: 5*n - k})
	}
	for k := n - 1; k >= 0; k-- {
		code = append(code, api.Instr{Op: api.IAgain, A: 4*k + 1})
	}
	wantDeep(t, "loops in one another", func(at int) api.Instr { return code[at] }, len(code), chain(n, inBlock, round, here), one(empty))
}

func TestTooManyRows(t *testing.T) {
	rows := append(one(head(api.RBlock, most-1)), chain(most-1, forget)...)
	if x := program(t, plan(rows)); len(x.Code) != most {
		t.Errorf("%d instructions", len(x.Code))
	}
	wantRefused(t, "a row too many", plan(append(one(head(api.RBlock, most)), chain(most, forget)...)))
	p := plan(rows)
	p.On[3] = one(empty)
	wantRefused(t, "a row too many, of two events", p)
}
