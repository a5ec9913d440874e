package index_test

import (
	"fmt"
	"iter"
	"math/big"
	"math/rand"
	"slices"
	"testing"

	"winnow/api"
	"winnow/index"
)

// plain is an index as the chapter's words have it: places in a row, gone through one behind the other.
type plain struct {
	most   int
	places []*pair // nil: an empty one
}

type pair struct {
	key  uint64
	held int
}

func newPlain(most int) *plain {
	slots := 2
	for slots < 2*most {
		slots *= 2
	}
	return &plain{most: most, places: make([]*pair, slots)}
}

// home takes the product as a great number, and divides it.
func home(slots int, key uint64) int {
	n, _ := new(big.Int).SetString("11400714819323198485", 10)
	n.Mul(n, new(big.Int).SetUint64(key))
	whole := new(big.Int).Lsh(big.NewInt(1), 64)
	n.Mod(n, whole)
	n.Mul(n, big.NewInt(int64(slots)))
	return int(n.Div(n, whole).Int64())
}

func (p *plain) twin() *plain {
	q := newPlain(p.most)
	for i, c := range p.places {
		if c != nil {
			q.places[i] = &pair{c.key, c.held}
		}
	}
	return q
}

func (p *plain) count() int {
	n := 0
	for _, c := range p.places {
		if c != nil {
			n++
		}
	}
	return n
}

// where looks at all places.
func (p *plain) where(key uint64) (int, bool) {
	for i, c := range p.places {
		if c != nil && c.key == key {
			return i, true
		}
	}
	return 0, false
}

func (p *plain) behind(place int) int {
	if place == len(p.places)-1 {
		return 0
	}
	return place + 1
}

func (p *plain) put(key uint64, v int) api.Errno {
	if i, ok := p.where(key); ok {
		p.places[i].held = v
		return api.OK
	}
	if p.count() == p.most {
		return api.ErrMany
	}
	i := home(len(p.places), key)
	for p.places[i] != nil {
		i = p.behind(i)
	}
	p.places[i] = &pair{key, v}
	return api.OK
}

func (p *plain) get(key uint64) (int, bool) {
	if i, ok := p.where(key); ok {
		return p.places[i].held, true
	}
	return 0, false
}

func (p *plain) drop(key uint64) (int, bool) {
	i, ok := p.where(key)
	if !ok {
		return 0, false
	}
	v := p.places[i].held
	p.places[i] = nil
	var way []int // from i to k, without i
	for k := p.behind(i); p.places[k] != nil; k = p.behind(k) {
		way = append(way, k)
		if !slices.Contains(way, home(len(p.places), p.places[k].key)) {
			p.places[i], p.places[k] = p.places[k], nil
			i, way = k, nil
		}
	}
	return v, true
}

// all tells the keys and their values, by key.
func (p *plain) all() []pair {
	var all []pair
	for _, c := range p.places {
		if c != nil {
			all = append(all, *c)
		}
	}
	slices.SortFunc(all, func(a, b pair) int {
		if a.key < b.key {
			return -1
		}
		return 1
	})
	return all
}

// form tells two plain indexes apart by which key lies where, whatever is held.
func (p *plain) form() string {
	s := ""
	for _, c := range p.places {
		if c != nil {
			s += fmt.Sprint(c.key)
		}
		s += "|"
	}
	return s
}

// call is one that may change an index, or ask it for a value.
type call struct {
	name string
	key  uint64
}

// told is what a call answers, but the value.
type told struct {
	err   api.Errno
	there bool
}

func do[V any](x *index.Index[V], c call, v V) (told, V) {
	var zero V
	switch c.name {
	case "Put":
		return told{err: x.Put(c.key, v)}, zero
	case "Drop":
		v, ok := x.Drop(c.key)
		return told{there: ok}, v
	}
	v, ok := x.Get(c.key)
	return told{there: ok}, v
}

func (p *plain) do(c call, v int) (told, int) {
	switch c.name {
	case "Put":
		return told{err: p.put(c.key, v)}, 0
	case "Drop":
		v, ok := p.drop(c.key)
		return told{there: ok}, v
	}
	v, ok := p.get(c.key)
	return told{there: ok}, v
}

// calls are all of them over those keys.
func calls(keys []uint64) []call {
	var all []call
	for _, k := range keys {
		all = append(all, call{"Put", k}, call{"Drop", k}, call{"Get", k})
	}
	return all
}

// someCall is one by chance.
func someCall(r *rand.Rand, keys []uint64) call {
	names := []string{"Put", "Put", "Put", "Drop", "Drop", "Get"}
	return call{names[r.Intn(len(names))], keys[r.Intn(len(keys))]}
}

// keysAt are n keys whose home, of so many places, is that one.
func keysAt(slots, at, n int) []uint64 {
	var keys []uint64
	for k := uint64(1); len(keys) < n; k++ {
		if home(slots, k) == at {
			keys = append(keys, k)
		}
	}
	return keys
}

// made is an index with a plain one beside it.
func made(t *testing.T, most int) (*index.Index[int], *plain) {
	t.Helper()
	x, err := index.New[int](most)
	if x == nil || err != api.OK {
		t.Fatalf("New(%d): %v", most, err)
	}
	return x, newPlain(most)
}

// gone tells what a sequence goes over.
func gone(seq iter.Seq2[uint64, int]) []pair {
	var all []pair
	for key, held := range seq {
		all = append(all, pair{key, held})
	}
	return all
}

// wantCall makes a call of both.
func wantCall(t *testing.T, x *index.Index[int], p *plain, c call, v int) {
	t.Helper()
	got, held := do(x, c, v)
	want, was := p.do(c, v)
	if got != want || held != was {
		t.Fatalf("%+v: %v, %d, want %v, %d", c, got, held, want, was)
	}
}

// wantKey holds what can be asked of a key against the plain index.
func wantKey(t *testing.T, x *index.Index[int], p *plain, key uint64) {
	t.Helper()
	if got, want := x.Home(key), home(len(p.places), key); got != want {
		t.Fatalf("Home(%d) = %d, want %d", key, got, want)
	}
	place, in := p.where(key)
	if got, ok := x.Slot(key); got != place || ok != in {
		t.Fatalf("Slot(%d) = %d, %v, want %d, %v", key, got, ok, place, in)
	}
	held, in := p.get(key)
	if got, ok := x.Get(key); got != held || ok != in {
		t.Fatalf("Get(%d) = %d, %v, want %d, %v", key, got, ok, held, in)
	}
}

// wantAll holds all that can be asked, of those keys, against the plain index.
func wantAll(t *testing.T, x *index.Index[int], p *plain, keys []uint64) {
	t.Helper()
	if x.Len() != p.count() || x.Slots() != len(p.places) {
		t.Fatalf("Len() = %d, Slots() = %d, want %d, %d", x.Len(), x.Slots(), p.count(), len(p.places))
	}
	if got, want := gone(x.All()), p.all(); !slices.Equal(got, want) {
		t.Fatalf("All: %v, want %v", got, want)
	}
	for _, key := range keys {
		wantKey(t, x, p, key)
	}
}

// behindRow makes a row of calls, each with its place in it as its value.
func behindRow(t *testing.T, most int, row []call) (*index.Index[int], *plain) {
	t.Helper()
	x, p := made(t, most)
	for i, c := range row {
		wantCall(t, x, p, c, i+1)
	}
	return x, p
}

// eachForm comes by each form that an index of those keys can have: a row of calls that leads there.
func eachForm(most int, keys []uint64, visit func(row []call)) {
	seen := map[string]bool{newPlain(most).form(): true}
	for rows := [][]call{nil}; len(rows) > 0; rows = rows[1:] {
		visit(rows[0])
		for _, c := range calls(keys) {
			row := append(slices.Clone(rows[0]), c)
			p := newPlain(most)
			for i, c := range row {
				p.do(c, i+1)
			}
			if !seen[p.form()] {
				seen[p.form()] = true
				rows = append(rows, row)
			}
		}
	}
}
