package index_test

import (
	"iter"
	"maps"
	"math"
	"math/rand"
	"runtime"
	"slices"
	"testing"
	"weak"

	"winnow/api"
	"winnow/index"
)

// Behind each way that keys of few homes can lie in a small index: each call.
func TestP605Forms(t *testing.T) {
	for _, c := range []struct {
		most  int
		homes []int
	}{
		{0, []int{0, 1}},
		{1, []int{0, 0, 1, 1}},
		{2, []int{0, 2, 3, 3, 3}},
		{3, []int{5, 6, 6, 7, 7, 0}},
		{4, []int{4, 4, 5, 5, 7}},
		{4, []int{6, 6, 7, 7, 0, 1}},
		{4, []int{0, 1, 2, 3, 4, 7}},
	} {
		slots := len(newPlain(c.most).places)
		var keys []uint64
		for _, at := range c.homes {
			more := keysAt(slots, at, len(c.homes))
			keys = append(keys, more[slices.IndexFunc(more, func(k uint64) bool { return !slices.Contains(keys, k) })])
		}
		eachForm(c.most, keys, func(row []call) {
			for _, last := range calls(keys) {
				x, p := behindRow(t, c.most, row)
				wantCall(t, x, p, last, 100)
				wantAll(t, x, p, keys)
			}
		})
	}
}

// Long rows of calls by chance, of keys that crowd.
func TestP605Rows(t *testing.T) {
	r := rand.New(rand.NewSource(605))
	for i := range 60 {
		most := r.Intn(10) + i%3*25
		slots := len(newPlain(most).places)
		keys := []uint64{0, math.MaxUint64}
		for range 3 {
			keys = append(keys, keysAt(slots, r.Intn(slots), most/3+1)...)
		}
		keys = append(keys, keysAt(slots, slots-1, most/3+1)...)
		x, p := made(t, most)
		for i := range 400 {
			wantCall(t, x, p, someCall(r, keys), i+1)
			if i%10 == 0 {
				wantAll(t, x, p, keys)
			}
		}
		wantAll(t, x, p, keys)
	}
}

// wantHeld holds an index against what a map says lies under its keys.
func wantHeld(t *testing.T, x *index.Index[int], held map[uint64]int) {
	t.Helper()
	if x.Len() != len(held) || !maps.Equal(maps.Collect(x.All()), held) {
		t.Fatalf("%d keys: %v, want %v", x.Len(), maps.Collect(x.All()), held)
	}
	for key, v := range held {
		wantGet(t, x, key, v, true)
	}
}

func TestP607(t *testing.T) {
	r := rand.New(rand.NewSource(607))
	for _, most := range []int{1, 2, 5, 16, 100} {
		x, _ := made(t, most)
		held := map[uint64]int{}
		keys := keysAt(x.Slots(), x.Slots()-1, most+3)
		for range most {
			keys = append(keys, r.Uint64())
		}
		for i := range 2000 {
			c := someCall(r, keys)
			was, in := held[c.key]
			got, v := do(x, c, i)
			switch {
			case c.name == "Put" && !in && len(held) == most:
				if got.err != api.ErrMany {
					t.Fatalf("%+v: %v", c, got)
				}
			case c.name == "Put":
				held[c.key] = i
				if got.err != api.OK {
					t.Fatalf("%+v: %v", c, got)
				}
			case v != was || got.there != in:
				t.Fatalf("%+v: %v, %d, want %d, %v", c, got, v, was, in)
			case c.name == "Drop":
				delete(held, c.key)
			}
			wantHeld(t, x, held)
		}
	}
}

// wantNoGap tells, by the index's own answers, that keys lie in unlike places and none behind an empty one.
func wantNoGap(t *testing.T, x *index.Index[int]) {
	t.Helper()
	full := make([]bool, x.Slots())
	for key := range x.All() {
		place, ok := x.Slot(key)
		if !ok || place < 0 || place >= len(full) || full[place] {
			t.Fatalf("Slot(%d) = %d, %v", key, place, ok)
		}
		full[place] = true
	}
	for key := range x.All() {
		place, _ := x.Slot(key)
		for i := x.Home(key); i != place; i = (i + 1) % len(full) {
			if !full[i] {
				t.Fatalf("%d lies at %d, its home is %d, and %d is empty", key, place, x.Home(key), i)
			}
		}
	}
}

func TestP608(t *testing.T) {
	r := rand.New(rand.NewSource(608))
	for _, most := range []int{1, 2, 3, 4, 8, 31, 64} {
		x, _ := made(t, most)
		keys := append(keysAt(x.Slots(), x.Slots()-1, most), keysAt(x.Slots(), 0, most)...)
		for range 2 * most {
			keys = append(keys, r.Uint64())
		}
		for i := range 1500 {
			do(x, someCall(r, keys), i)
			wantNoGap(t, x)
		}
	}
}

// As many keys as there may be, and half of them dropped again.
func TestP603Most(t *testing.T) {
	x, _ := made(t, api.MaxNodes)
	for i := range api.MaxNodes {
		if err := x.Put(uint64(i)<<20, i); err != api.OK {
			t.Fatalf("Put %d: %v", i, err)
		}
	}
	wantPut(t, x, 1, 1, api.ErrMany)
	for i := range api.MaxNodes / 2 {
		if v, ok := x.Drop(uint64(2*i) << 20); v != 2*i || !ok {
			t.Fatalf("Drop %d: %d, %v", 2*i, v, ok)
		}
	}
	next := 1
	for key, v := range x.All() {
		if key != uint64(next)<<20 || v != next {
			t.Fatalf("%d lies under %d, want %d", v, key, next)
		}
		next += 2
	}
	if next != api.MaxNodes+1 || x.Len() != api.MaxNodes/2 {
		t.Errorf("%d keys, up to %d", x.Len(), next)
	}
	wantNoGap(t, x)
}

// Many indexes of many places and few keys are made, and made again.
func TestFewKeys(t *testing.T) {
	for i := range 100 {
		x, _ := made(t, api.MaxNodes)
		for key := range uint64(20) {
			wantPut(t, x, key, i, api.OK)
		}
		y := x.Twin()
		wantDrop(t, y, 7, i, true)
		wantGet(t, x, 7, i, true)
		if got := len(gone(y.All())); got != 19 {
			t.Fatalf("%d keys", got)
		}
	}
}

// five is an index with five keys, and what All goes over.
func five(t *testing.T) (*index.Index[int], []pair) {
	t.Helper()
	x, _ := made(t, 6)
	for _, key := range []uint64{math.MaxUint64, 3, 0, 1 << 63, 20} {
		wantPut(t, x, key, int(key%100), api.OK)
	}
	return x, []pair{{0, 0}, {3, 3}, {20, 20}, {1 << 63, 8}, {math.MaxUint64, 15}}
}

// A sequence goes over the index as it was, whatever is done to it.
func TestP5Changed(t *testing.T) {
	for _, c := range calls([]uint64{math.MaxUint64, 3, 0, 1 << 63, 20, 7}) {
		x, want := five(t)
		seq := x.All()
		for range 2 {
			do(x, c, 100)
			if got := gone(seq); !slices.Equal(got, want) {
				t.Errorf("behind %+v: %v", c, got)
			}
			do(x, call{"Drop", 3}, 0)
		}
	}
}

func TestP5Within(t *testing.T) {
	x, all := five(t)
	seq := x.All()
	var got, want []pair
	for key, held := range seq {
		for other, more := range seq {
			got = append(got, pair{key ^ other, held*100 + more})
			if other == key {
				break
			}
		}
		x.Drop(key)
		x.Put(key+1, 1000)
	}
	for i, c := range all {
		for _, d := range all[:i+1] {
			want = append(want, pair{c.key ^ d.key, c.held*100 + d.held})
		}
	}
	if !slices.Equal(got, want) {
		t.Errorf("%v, want %v", got, want)
	}
}

func TestP5Early(t *testing.T) {
	x, want := five(t)
	seq := x.All()
	for stop := range 6 {
		count := 0
		seq(func(uint64, int) bool {
			count++
			return count <= stop
		})
		if count != min(stop+1, 5) {
			t.Errorf("left behind %d: %d", stop+1, count)
		}
	}
	next, done := iter.Pull2(seq)
	defer done()
	for _, c := range want {
		if key, held, ok := next(); key != c.key || held != c.held || !ok {
			t.Errorf("pulled: %d, %d, %v", key, held, ok)
		}
		x.Drop(20)
	}
}

// A sequence of an index without keys stays one of nothing.
func TestP5Empty(t *testing.T) {
	x, _ := made(t, 3)
	seq := x.All()
	wantPut(t, x, 1, 1, api.OK)
	if got := gone(seq); len(got) != 0 {
		t.Errorf("%v", got)
	}
}

// The same calls answer the same, and no two indexes are one.
func TestP3P7(t *testing.T) {
	r := rand.New(rand.NewSource(3))
	x, p := made(t, 20)
	y, q := made(t, 20)
	other, none := made(t, 20)
	var keys []uint64
	for range 40 {
		keys = append(keys, r.Uint64())
	}
	for i := range 500 {
		c := someCall(r, keys)
		wantCall(t, x, p, c, i)
		wantCall(t, y, q, c, i)
	}
	wantAll(t, x, q, keys)
	wantAll(t, y, p, keys)
	wantAll(t, other, none, keys)
}

// An index that New did not make takes no keys.
func TestP1Zero(t *testing.T) {
	keys := []uint64{0, 1, math.MaxUint64}
	for _, c := range calls(keys) {
		var x index.Index[int]
		p := newPlain(0)
		wantCall(t, &x, p, c, 1)
		wantAll(t, &x, p, keys)
		wantAll(t, x.Twin(), p, keys)
	}
}

// answers makes the calls over an index of one type: all numbers, errors and truths, beside values that are looked at here alone.
func answers[V any](t *testing.T, row []call, value func(i int) V, same func(v, w V) bool) []int {
	t.Helper()
	x, _ := index.New[V](12)
	var all []int
	held := map[uint64]V{}
	for i, c := range row {
		want := held[c.key]
		got, v := do(x, c, value(i))
		place, _ := x.Slot(c.key)
		all = append(all, int(got.err), place, x.Len(), x.Home(c.key))
		if got.there && !same(v, want) {
			t.Fatalf("call %d, %+v: %v, want %v", i, c, v, want)
		}
		if c.name == "Put" && got.err == api.OK {
			held[c.key] = value(i)
		}
		if c.name == "Drop" {
			delete(held, c.key)
		}
		for key, v := range x.Twin().All() {
			place, _ := x.Slot(key)
			if all = append(all, place, int(key)); !same(v, held[key]) {
				t.Fatalf("%v lies under %d, want %v", v, key, held[key])
			}
		}
	}
	return all
}

func equal[V comparable](v, w V) bool { return v == w }

// Values of any type, those that can't be held against each other and those that are not equal to themselves among them.
func TestAnyType(t *testing.T) {
	r := rand.New(rand.NewSource(6))
	keys := append(keysAt(32, 31, 8), keysAt(32, 0, 12)...)
	var row []call
	for range 600 {
		row = append(row, someCall(r, keys))
	}
	want := answers(t, row, func(i int) int { return i }, equal)
	type big struct {
		n    int
		rest [500]byte
	}
	is := func(v, w any) bool {
		f, ok := v.(func() int)
		g, also := w.(func() int)
		return ok && also && f() == g()
	}
	for i, got := range [][]int{
		answers(t, row, func(i int) string { return string(rune('a' + i)) }, equal),
		answers(t, row, func(i int) struct{} { return struct{}{} }, equal),
		answers(t, row, func(i int) bool { return i%3 == 0 }, equal),
		answers(t, row, func(i int) big { return big{n: i} }, equal),
		answers(t, row, func(i int) float64 { return math.NaN() }, func(v, w float64) bool { return v != v && w != w }),
		answers(t, row, func(i int) []int { return []int{i, -i} }, slices.Equal),
		answers(t, row, func(i int) any { return func() int { return i } }, is),
		answers(t, row, func(i int) error { return nil }, func(v, w error) bool { return v == w }),
	} {
		if !slices.Equal(got, want) {
			t.Errorf("type %d: other numbers and errors", i)
		}
	}
}

// wantKept tells which values something still holds.
func wantKept(t *testing.T, held []weak.Pointer[[4]int], want []bool) {
	t.Helper()
	runtime.GC()
	for i, there := range want {
		if (held[i].Value() != nil) != there {
			t.Errorf("value %d is there: %v", i, !there)
		}
	}
}

// What was dropped, or lay where another value lies now, is not kept.
func TestNotKept(t *testing.T) {
	x, _ := index.New[*[4]int](4)
	keys := keysAt(8, 6, 4)
	var held []weak.Pointer[[4]int]
	for _, key := range append(keys, keys[3]) {
		v := new([4]int)
		held = append(held, weak.Make(v))
		x.Put(key, v)
	}
	x.Drop(keys[0])
	x.Drop(keys[2])
	wantKept(t, held, []bool{false, true, false, false, true})
	x.Drop(keys[3])
	wantKept(t, held, []bool{false, true, false, false, false})
	x.Drop(keys[1])
	wantKept(t, held, make([]bool, 5))
	runtime.KeepAlive(x)
}
