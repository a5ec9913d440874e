package typed_test

import (
	"fmt"
	"math"
	"math/big"
	"math/rand"
	"slices"
	"testing"

	"winnow/api"
	"winnow/names"
	"winnow/typed"
)

// wantPlain holds a policy under capacities against the plain reading of the chapter, and answers Check's fault.
func wantPlain(t *testing.T, text string, p api.Policy, c api.Caps) api.Errno {
	t.Helper()
	x := newPlain(p)
	fault := x.typesFault()
	var want []int
	for _, row := range p.Rows {
		want = append(want, typeOf(row.Kind))
	}
	if fault != (api.Fault{}) {
		want = nil
	}
	if types, got := typed.Types(p); got != fault || !slices.Equal(types, want) {
		t.Fatalf("%s\nTypes: %v, %v; want %v, %v", text, got, types, fault, want)
	}
	unfit := api.Fault{Err: api.ErrCaps}
	if fits(p.Queues, c) {
		unfit = api.Fault{}
	}
	if got := typed.Fit(p, c); got != unfit {
		t.Fatalf("%s\nFit of %v: %v; want %v", text, c, got, unfit)
	}
	if fault == (api.Fault{}) {
		fault = unfit
	}
	wantConsts(t, text, x, c, fault)
	told := api.Typed{}
	if fault == (api.Fault{}) {
		told, fault = x.check(c)
	}
	if got, f := typed.Check(p, c); f != fault || !sameTyped(got, told) {
		t.Fatalf("%s\nCheck of %v: %v, %v; want %v, %v", text, c, f, got, fault, told)
	}
	return fault.Err
}

// wantConsts asks for the number of each row of a small policy, of some rows of a large one; fault: what Types and Fit tell.
func wantConsts(t *testing.T, text string, x *plain, c api.Caps, fault api.Fault) {
	t.Helper()
	for at := 0; at < len(x.p.Rows); at += 1 + len(x.p.Rows)/20 {
		row := x.p.Rows[at]
		want, wanted := 0, fault
		switch {
		case fault != (api.Fault{}):
		case typeOf(row.Kind) == typed.None || !x.isConstant(at):
			wanted = api.Fault{Err: api.ErrConst, At: at}
		default:
			want = int(x.value(c, at).Int64())
		}
		if n, got := typed.Const(x.p, c, at); got != wanted || n != want {
			t.Fatalf("%s\nConst of %v, row %d, %v: %v, %d; want %v, %d", text, c, at, row, got, n, wanted, want)
		}
	}
}

func TestChanceTexts(t *testing.T) {
	counts := map[api.Errno]int{}
	for seed := range int64(2000) {
		m := newMaker(seed, []float64{0, 0, 0.005, 0.03}[seed%4], []float64{0, 0.05, 0.2}[seed%3])
		text := m.text()
		p := whole(t, text)
		counts[wantPlain(t, text, p, m.caps(p.Queues))]++
	}
	for _, err := range []api.Errno{api.OK, api.ErrType, api.ErrConst, api.ErrKind, api.ErrCaps, api.ErrRange, api.ErrRequire} {
		if counts[err] < 15 {
			t.Errorf("%v was met %d times: %v", err, counts[err], counts)
		}
	}
}

// Rows of a policy changed to others of the same shape: types and kinds are wrong in every way.
func TestChanceChanges(t *testing.T) {
	shapes := [][]int{
		{api.NTrue, api.NFalse, api.NSize, api.NTotal},
		{api.NLen, api.NCap, api.NEmpty, api.NFull, api.NAt},
		{api.NMin, api.NMax, api.NMul, api.NDiv, api.NAdd, api.NSub, api.NEq, api.NNe, api.NLt, api.NLe, api.NGt, api.NGe, api.NAnd, api.NOr},
		{api.NInsert, api.NMove, api.NDrop}, {api.NShift, api.NEvict}, {api.NNeg, api.NNot},
	}
	counts := map[api.Errno]int{}
	r := rand.New(rand.NewSource(8))
	for seed := range int64(1500) {
		m := newMaker(seed, 0, 0)
		p := whole(t, m.text())
		rows := slices.Clone(p.Rows)
		for range 1 + r.Intn(2) {
			at := r.Intn(len(rows))
			for _, shape := range shapes {
				if slices.Contains(shape, rows[at].Kind) && (rows[at].Kind != api.NEvict || rows[at].Kids == 1) {
					rows[at].Kind = shape[r.Intn(len(shape))]
					break
				}
			}
		}
		p.Rows = rows
		if names.Check(p) != api.OK {
			continue // a product in a sum may need more levels than there are
		}
		counts[wantPlain(t, fmt.Sprint(rows), p, m.caps(p.Queues))]++
	}
	if counts[api.ErrType] < 100 || counts[api.ErrConst] < 5 || counts[api.ErrKind] < 20 || counts[api.OK] < 100 {
		t.Errorf("what was met: %v", counts)
	}
}

// namedByCaps are the queues that a policy's NCap rows name, and whether there is an NSize.
func namedByCaps(p api.Policy) (queues []int, size bool) {
	for _, row := range p.Rows {
		if row.Kind == api.NCap {
			queues = append(queues, row.N)
		}
		size = size || row.Kind == api.NSize
	}
	return queues, size
}

// Capacities that nothing names may be any that fit.
func TestP806(t *testing.T) {
	r := rand.New(rand.NewSource(806))
	changed := 0
	for seed := range int64(1000) {
		m := newMaker(seed, 0.002, 0.05)
		text := m.text()
		p := whole(t, text)
		c := m.caps(p.Queues)
		first, fault := typed.Check(p, c)
		queues, size := namedByCaps(p)
		for range 5 {
			d := api.Caps{Size: c.Size, Queues: slices.Clone(c.Queues)}
			for i := range d.Queues {
				if !slices.Contains(queues, i) {
					d.Queues[i] = 1 + r.Intn(20)
				}
			}
			if !size {
				d.Size += r.Intn(3) - 1
			}
			if typed.Fit(p, c) != typed.Fit(p, d) {
				continue
			}
			if d.Size != c.Size || !slices.Equal(c.Queues, d.Queues) {
				changed++
			}
			if got, f := typed.Check(p, d); f != fault || !sameTyped(got, first) {
				t.Fatalf("%s\nunder %v: %v, %v\nunder %v: %v, %v", text, c, fault, first, d, f, got)
			}
		}
	}
	if changed < 1000 {
		t.Errorf("only %d others", changed)
	}
}

// edges are ints at which something turns.
func edges() []int {
	var list []int
	for _, n := range []int{0, 1, 2, 3, 7, 10, 1 << 15, 46341, 1<<30 - 1, 1 << 30} {
		list = append(list, n, -n)
	}
	return list
}

// wantDivided wants P807 of a pair of the language's numbers.
func wantDivided(t *testing.T, a, b int) {
	t.Helper()
	if typed.Clamp(a) != a || typed.Clamp(b) != b {
		t.Fatalf("Clamp changes %d or %d", a, b)
	}
	whole := typed.Div(a, b)
	if typed.Clamp(whole) != whole {
		t.Fatalf("Div(%d, %d): %d", a, b, whole)
	}
	left := a - whole*b
	switch {
	case b == 0 && whole != 0, b > 0 && (left < 0 || left > b-1), b < 0 && (left > 0 || left < b+1):
		t.Fatalf("Div(%d, %d): %d, and %d is left", a, b, whole, left)
	}
}

func TestP807(t *testing.T) {
	for _, a := range edges() {
		for _, b := range edges() {
			wantDivided(t, a, b)
		}
	}
	for a := -40; a <= 40; a++ {
		for b := -12; b <= 12; b++ {
			wantDivided(t, a, b)
		}
	}
	r := rand.New(rand.NewSource(807))
	for range 20000 {
		wantDivided(t, r.Intn(1<<31+1)-1<<30, (r.Intn(1<<31+1)-1<<30)>>r.Intn(31))
	}
}

// Of any ints, against numbers that have no end.
func TestP803AnyInts(t *testing.T) {
	r := rand.New(rand.NewSource(803))
	list := append(edges(), math.MaxInt, math.MinInt, math.MaxInt-1, math.MinInt+1, math.MaxInt32, math.MinInt32, math.MaxInt>>1, math.MinInt>>1, 1<<31, 1<<32, 1<<33, -1<<33)
	for range 300 {
		list = append(list, int(r.Uint64())>>r.Intn(64))
	}
	for _, a := range list {
		if got, want := typed.Clamp(a), clamped(big.NewInt(int64(a))); int64(got) != want.Int64() {
			t.Fatalf("Clamp(%d): %d", a, got)
		}
		for _, b := range list {
			want := clamped(floored(big.NewInt(int64(a)), big.NewInt(int64(b))))
			if got := typed.Div(a, b); int64(got) != want.Int64() {
				t.Fatalf("Div(%d, %d): %d; want %v", a, b, got, want)
			}
		}
	}
}

// A text of the published ones, under capacities that its requirements take and others.
func TestPublished(t *testing.T) {
	p := whole(t, `policy s3fifo { queue small resident; queue main resident; queue gone ghost; tag freq in 3; var done = 0 in 0 .. 1; require size >= 10; require cap(small) == size;
		rule evictmain { loop 3 * cap(main) while !empty(main) && freq(back(main)) > 0 { mark back(main) freq = freq(back(main)) - 1; shift main back main front; } if !empty(main) { evict main back; } }
		rule reclaim { loop 2 while total == size { if len(small) >= size / 10 { evict small back to gone front; } else { call evictmain; } } }
		on hit small { mark x freq = freq(x) + 1; } on ghost gone { call reclaim; move main front; } on miss { call reclaim; insert small front; } }`)
	got, fault := typed.Check(p, api.Caps{Size: 20, Queues: []int{20, 18, 9}})
	rounds := slices.DeleteFunc(slices.Clone(got.Rounds), func(n int) bool { return n == 0 })
	if fault != (api.Fault{}) || !slices.Equal(got.Vars, []api.Var{{Init: 0, Lo: 0, Hi: 1}}) || !slices.Equal(got.Tags, []int{3}) || !slices.Equal(rounds, []int{54, 2}) || len(got.Rounds) != len(p.Rows) {
		t.Errorf("%v, %v", fault, got)
	}
	for _, c := range []struct {
		caps api.Caps
		want api.Fault
	}{
		{api.Caps{Size: 9, Queues: []int{9, 9, 9}}, api.Fault{Err: api.ErrRequire, At: row(t, p, api.NRequire, 0)}}, {api.Caps{Size: 10, Queues: []int{9, 9, 9}}, api.Fault{Err: api.ErrRequire, At: row(t, p, api.NRequire, 1)}},
		{api.Caps{Size: 10, Queues: []int{10, 9}}, api.Fault{Err: api.ErrCaps}}, {api.Caps{Size: 10, Queues: []int{10, 9, 100}}, api.Fault{}}, {api.Caps{Size: 10, Queues: []int{10, 11, 100}}, api.Fault{Err: api.ErrCaps}},
		{api.Caps{Size: 1 << 20, Queues: []int{1 << 20, 1 << 20, 1}}, api.Fault{}},
	} {
		if _, fault := typed.Check(p, c.caps); fault != c.want {
			t.Errorf("%v: %v; want %v", c.caps, fault, c.want)
		}
	}
}

// Whatever is handed in, each call ends; what is no policy is told as such.
func TestP1AnyPolicy(t *testing.T) {
	r := rand.New(rand.NewSource(801))
	odd := func() int {
		return []int{0, 1, 2, 3, -1, -2, r.Intn(20), r.Intn(100), math.MaxInt, math.MinInt}[r.Intn(10)]
	}
	right := newMaker(5, 0, 0)
	first := whole(t, right.text())
	for range 5000 {
		p := first
		p.Rows = slices.Clone(first.Rows)
		p.Queues = slices.Clone(first.Queues)
		for range 1 + r.Intn(3) {
			at := r.Intn(len(p.Rows))
			switch r.Intn(5) {
			case 0:
				p.Rows[at].Kind = r.Intn(api.NCount+2) - 1
			case 1:
				p.Rows[at].N = odd()
			case 2:
				p.Rows[at].Kids = odd()
			case 3:
				p.Rows = p.Rows[:r.Intn(len(p.Rows))+1]
			case 4:
				p.Queues[r.Intn(len(p.Queues))].Ghost = true
			}
		}
		c := api.Caps{Size: odd(), Queues: []int{odd(), odd(), odd(), odd()}[:r.Intn(5)]}
		_, fault := typed.Types(p)
		_, other := typed.Check(p, c)
		_, third := typed.Const(p, c, odd())
		fourth := typed.Fit(p, c)
		if names.Check(p) == api.OK {
			continue
		}
		want := api.Fault{Err: api.ErrShape}
		if fault != want || other != want || third != want || fourth != want {
			t.Fatalf("%v: %v, %v, %v, %v", p, fault, other, third, fourth)
		}
	}
}

const ordinary = `tag t in 3; tag u in cap(a); var v = 1 in 0 .. size; var w = cap(b) - 1 in 0 .. 100; require size > 1; rule r { loop size while full(a) { mark x t = t(back(a)) + 1; } }
	on miss { loop 3 while empty(a) { set v = min(v, 1) * 2; } call r; insert a back; }`

// spare is a list with spare room behind it, in which something stands.
func spare[T any](list []T, last T) []T {
	return append(slices.Clone(list), last, last)[:len(list)]
}

func TestP2NothingIsChanged(t *testing.T) {
	p := policy(t, ordinary)
	p.Rows = spare(p.Rows, api.Row{Kind: api.NPass})
	p.Queues = spare(p.Queues, api.Queue{Name: "spare"})
	c := usual()
	c.Queues = spare(c.Queues, -7)
	rows, queues, caps := slices.Clone(p.Rows[:cap(p.Rows)]), slices.Clone(p.Queues[:cap(p.Queues)]), slices.Clone(c.Queues[:cap(c.Queues)])
	typed.Types(p)
	typed.Fit(p, c)
	typed.Check(p, c)
	for at := range p.Rows {
		typed.Const(p, c, at)
	}
	if !slices.Equal(rows, p.Rows[:cap(p.Rows)]) || !slices.Equal(queues, p.Queues[:cap(p.Queues)]) || !slices.Equal(caps, c.Queues[:cap(c.Queues)]) {
		t.Error("what was handed in is changed")
	}
}

// fill puts a number in all of a list, its spare room too.
func fill[T any](list []T, value T) {
	for i := range list[:cap(list)] {
		list[:cap(list)][i] = value
	}
}

func TestP2NothingIsShared(t *testing.T) {
	p := policy(t, ordinary)
	types, _ := typed.Types(p)
	want := slices.Clone(types)
	first, _ := typed.Check(p, usual())
	kept := api.Typed{Vars: slices.Clone(first.Vars), Tags: slices.Clone(first.Tags), Rounds: slices.Clone(first.Rounds)}
	fill(first.Vars, api.Var{Init: -7})
	if !slices.Equal(first.Tags, kept.Tags) || !slices.Equal(first.Rounds, kept.Rounds) {
		t.Error("vars share")
	}
	fill(first.Tags, -7)
	if !slices.Equal(first.Rounds, kept.Rounds) {
		t.Error("tags share")
	}
	fill(first.Rounds, -7)
	fill(types, -7)
	if again, fault := typed.Types(p); fault != (api.Fault{}) || !slices.Equal(again, want) {
		t.Errorf("Types: %v, %v", fault, again)
	}
	if again, fault := typed.Check(p, usual()); fault != (api.Fault{}) || !sameTyped(again, kept) {
		t.Errorf("Check: %v, %v", fault, again)
	}
}

func TestP3Again(t *testing.T) {
	for seed := range int64(50) {
		m := newMaker(seed, 0.01, 0.05)
		p := whole(t, m.text())
		c := m.caps(p.Queues)
		first, fault := typed.Check(p, c)
		types, other := typed.Types(p)
		for range 5 {
			if again, f := typed.Check(p, c); f != fault || !sameTyped(again, first) {
				t.Fatalf("Check: %v, %v; it was %v, %v", f, again, fault, first)
			}
			if again, f := typed.Types(p); f != other || !slices.Equal(again, types) {
				t.Fatalf("Types: %v, %v; it was %v, %v", f, again, other, types)
			}
		}
	}
}

// deep is a policy with a sum of so many numbers in it, each sign below the one ahead, from the left; and so many conditions, each in the else of the one ahead.
func deep(n int, number api.Row) []api.Row {
	rows := []api.Row{{Kind: api.NPolicy, Name: "p", Kids: 4}, {Kind: api.NQueue, Name: "q"}, {Kind: api.NTag, Name: "t", Kids: 1}}
	rows = append(rows, slices.Repeat([]api.Row{{Kind: api.NSub, Kids: 2}}, n)...)
	rows = append(rows, api.Row{Kind: api.NNum, N: 7}, number)
	rows = append(rows, slices.Repeat([]api.Row{{Kind: api.NNum}}, n-1)...)
	rows = append(rows, api.Row{Kind: api.NRule, Name: "r", Kids: 1}, api.Row{Kind: api.NBlock, Kids: 2}, api.Row{Kind: api.NDrop, Name: "q"})
	for range n {
		rows = append(rows, api.Row{Kind: api.NIf, Kids: 3}, api.Row{Kind: api.NTrue}, api.Row{Kind: api.NBlock})
	}
	return append(rows, api.Row{Kind: api.NBlock}, api.Row{Kind: api.NMiss, Kids: 1}, api.Row{Kind: api.NBlock})
}

// As many rows as a text can have and more, each below the one ahead, are gone through in a moment.
func TestDeepTrees(t *testing.T) {
	const n = 1 << 17
	resolved := func(number api.Row) api.Policy {
		p, fault := names.Resolve(deep(n, number))
		if fault != (api.Fault{}) {
			t.Fatal(fault)
		}
		return p
	}
	c := api.Caps{Size: 4, Queues: []int{3}}
	p := resolved(api.Row{Kind: api.NCap, Name: "q"})
	kind := row(t, p, api.NDrop, 0)
	if _, fault := typed.Check(p, c); fault != (api.Fault{Err: api.ErrKind, At: kind}) {
		t.Errorf("a drop: %v", fault)
	}
	p.Rows[kind].Kind = api.NInsert
	if x, fault := typed.Check(p, c); fault != (api.Fault{}) || !slices.Equal(x.Tags, []int{4}) || len(x.Rounds) != len(p.Rows) {
		t.Errorf("%v, %v", fault, x.Tags)
	}
	if types, fault := typed.Types(p); fault != (api.Fault{}) || types[n] != typed.Num || types[len(p.Rows)-4] != typed.Bool && types[len(p.Rows)-5] != typed.Bool {
		t.Errorf("Types: %v", fault)
	}
	if x, fault := typed.Const(p, c, n); fault != (api.Fault{}) || x != 4 {
		t.Errorf("Const: %v, %v", fault, x)
	}
	p = resolved(api.Row{Kind: api.NLen, Name: "q"})
	if _, fault := typed.Types(p); fault != (api.Fault{Err: api.ErrConst, At: n + 4}) {
		t.Errorf("a length: %v", fault)
	}
	p = resolved(api.Row{Kind: api.NFalse})
	if _, fault := typed.Types(p); fault != (api.Fault{Err: api.ErrType, At: n + 4}) {
		t.Errorf("a bool: %v", fault)
	}
}
