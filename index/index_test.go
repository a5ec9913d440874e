package index_test

import (
	"math"
	"slices"
	"testing"

	"winnow/api"
	"winnow/index"
)

func wantPut[V any](t *testing.T, x *index.Index[V], key uint64, v V, err api.Errno) {
	t.Helper()
	if e := x.Put(key, v); e != err {
		t.Errorf("Put(%d, %v) = %v, want %v", key, v, e, err)
	}
}

func wantGet[V comparable](t *testing.T, x *index.Index[V], key uint64, v V, there bool) {
	t.Helper()
	if got, ok := x.Get(key); got != v || ok != there {
		t.Errorf("Get(%d) = %v, %v, want %v, %v", key, got, ok, v, there)
	}
}

func wantDrop[V comparable](t *testing.T, x *index.Index[V], key uint64, v V, there bool) {
	t.Helper()
	if got, ok := x.Drop(key); got != v || ok != there {
		t.Errorf("Drop(%d) = %v, %v, want %v, %v", key, got, ok, v, there)
	}
}

func wantSlot[V any](t *testing.T, x *index.Index[V], key uint64, place int, there bool) {
	t.Helper()
	if got, ok := x.Slot(key); got != place || ok != there {
		t.Errorf("Slot(%d) = %d, %v, want %d, %v", key, got, ok, place, there)
	}
}

func wantNoIndex(t *testing.T, most int) {
	t.Helper()
	if x, err := index.New[string](most); x != nil || err != api.ErrArg {
		t.Errorf("New(%d) = %v, %v", most, x, err)
	}
}

func TestExample1(t *testing.T) {
	x, _ := made(t, 3)
	if x.Slots() != 8 {
		t.Errorf("Slots() = %d", x.Slots())
	}
	for key, want := range []int{0, 4, 1} {
		if got := x.Home(uint64(key)); got != want {
			t.Errorf("Home(%d) = %d, want %d", key, got, want)
		}
	}
}

func TestExample2(t *testing.T) {
	x, _ := made(t, 3)
	a, third := keysAt(8, 4, 2)[1], keysAt(8, 5, 1)[0]
	for i, key := range []uint64{1, a, third} {
		wantPut(t, x, key, i, api.OK)
		wantSlot(t, x, key, 4+i, true)
	}
	wantDrop(t, x, 1, 0, true)
	wantSlot(t, x, 1, 0, false)
	wantSlot(t, x, a, 4, true)
	wantSlot(t, x, third, 5, true)
}

func TestExample3(t *testing.T) {
	x, _ := made(t, 0)
	if x.Slots() != 2 {
		t.Errorf("Slots() = %d", x.Slots())
	}
	wantPut(t, x, 1, 1, api.ErrMany)
	wantNoIndex(t, -1)
}

func TestExample4(t *testing.T) {
	x, _ := index.New[string](1)
	if x.Slots() != 2 {
		t.Errorf("Slots() = %d", x.Slots())
	}
	wantPut(t, x, 5, "v", api.OK)
	wantPut(t, x, 5, "w", api.OK)
	wantPut(t, x, 6, "v", api.ErrMany)
	wantGet(t, x, 5, "w", true)
	wantGet(t, x, 6, "", false)
}

func TestP601(t *testing.T) {
	for most, slots := range map[int]int{
		0: 2, 1: 2, 2: 4, 3: 8, 4: 8, 5: 16, 7: 16, 8: 16, 9: 32, 15: 32, 16: 32, 17: 64, 1000: 2048, 1024: 2048, 1025: 4096,
		1<<21 - 1: 1 << 22, 1 << 21: 1 << 22, 1<<21 + 1: 1 << 23, api.MaxNodes - 1: 1 << 23, api.MaxNodes: 1 << 23,
	} {
		x, err := index.New[string](most)
		if x == nil || err != api.OK || x.Slots() != slots || x.Len() != 0 {
			t.Fatalf("New(%d): %v, %d places", most, err, x.Slots())
		}
		wantGet(t, x, 0, "", false)
		wantSlot(t, x, 0, 0, false)
		wantDrop(t, x, 0, "", false)
		for key := range x.All() {
			t.Errorf("New(%d) has %d", most, key)
		}
	}
	for _, most := range []int{math.MinInt, -1 << 32, -2, -1, api.MaxNodes + 1, 1 << 32, math.MaxInt} {
		wantNoIndex(t, most)
	}
}

// The least power of two, one after the other.
func TestP601Each(t *testing.T) {
	for most := range 3000 {
		x, p := made(t, most)
		if x.Slots() != len(p.places) {
			t.Fatalf("New(%d): %d places, want %d", most, x.Slots(), len(p.places))
		}
	}
}

// edgeKeys are keys at the edges of what there is, and those beside powers of two.
func edgeKeys() []uint64 {
	keys := []uint64{0, math.MaxUint64, 11400714819323198485, 0xF1DE83E19937733D}
	for b := range 64 {
		keys = append(keys, 1<<b-1, 1<<b, 1<<b+1, -(1 << b), math.MaxUint64/3<<b, uint64(b)*0x0101010101010101)
	}
	return keys
}

func TestP602(t *testing.T) {
	for most := 1; most <= api.MaxNodes; most *= 2 {
		x, _ := made(t, most)
		for _, key := range edgeKeys() {
			if got, want := x.Home(key), home(2*most, key); got != want {
				t.Fatalf("of %d places: Home(%d) = %d, want %d", 2*most, key, got, want)
			}
		}
	}
	x, _ := made(t, 0)
	if x.Home(0) != 0 || x.Home(1) != 1 || x.Home(2) != 0 || x.Home(math.MaxUint64) != 0 {
		t.Errorf("of two places: %d, %d, %d, %d", x.Home(0), x.Home(1), x.Home(2), x.Home(math.MaxUint64))
	}
}

// The last place is some key's home, and homes hang on the key alone.
func TestP602Last(t *testing.T) {
	x, _ := made(t, 4)
	inverse := uint64(0xF1DE83E19937733D) // times the factor it is 1
	key := inverse * math.MaxUint64
	if x.Home(key) != 7 || x.Home(inverse) != 0 {
		t.Fatalf("Home: %d, %d", x.Home(key), x.Home(inverse))
	}
	for _, k := range keysAt(8, 7, 4) {
		wantPut(t, x, k, 1, api.OK)
	}
	if x.Home(key) != 7 || x.Home(inverse) != 0 {
		t.Errorf("Home of a full index: %d, %d", x.Home(key), x.Home(inverse))
	}
}

// A key that is there takes another value where it is, in a full index too.
func TestP603There(t *testing.T) {
	x, _ := made(t, 3)
	a := keysAt(8, 6, 3)
	for i, key := range a {
		wantPut(t, x, key, i, api.OK)
	}
	for i, key := range a {
		wantPut(t, x, key, 10+i, api.OK)
		wantSlot(t, x, key, (6+i)%8, true)
		wantGet(t, x, key, 10+i, true)
	}
	if x.Len() != 3 {
		t.Errorf("Len() = %d", x.Len())
	}
}

func TestP603Many(t *testing.T) {
	for most := range 40 {
		x, _ := made(t, most)
		for key := range uint64(most) {
			wantPut(t, x, key, int(key), api.OK)
		}
		was := gone(x.All())
		for key := range uint64(most) {
			wantPut(t, x, 1000+key, 1, api.ErrMany)
		}
		if now := gone(x.All()); !slices.Equal(now, was) || x.Len() != most {
			t.Errorf("New(%d): ErrMany changed %v to %v", most, was, now)
		}
		if most == 0 {
			continue
		}
		wantDrop(t, x, 0, 0, true)
		wantPut(t, x, 1000, 1000, api.OK)
		wantPut(t, x, 0, 1000, api.ErrMany)
	}
}

// From the last place on it goes on at place 0.
func TestP603Around(t *testing.T) {
	x, _ := made(t, 4)
	last, first := keysAt(8, 7, 2), keysAt(8, 0, 2)
	for i, key := range []uint64{last[0], last[1], first[0], first[1]} {
		wantPut(t, x, key, i, api.OK)
		wantSlot(t, x, key, (7+i)%8, true)
	}
}

// A key takes the first empty place, not one behind all that lie together.
func TestP603First(t *testing.T) {
	x, _ := made(t, 8)
	a, b := keysAt(16, 3, 3), keysAt(16, 5, 1)
	wantPut(t, x, b[0], 1, api.OK)
	for i, place := range []int{3, 4, 6} {
		wantPut(t, x, a[i], 2, api.OK)
		wantSlot(t, x, a[i], place, true)
	}
}

// A key of the number 0 is one like the others, and a value of 0 is one too.
func TestP604Zero(t *testing.T) {
	x, _ := made(t, 2)
	wantGet(t, x, 0, 0, false)
	wantPut(t, x, math.MaxUint64, 7, api.OK)
	wantGet(t, x, 0, 0, false)
	wantSlot(t, x, 0, 0, false)
	wantPut(t, x, 0, 0, api.OK)
	wantGet(t, x, 0, 0, true)
	wantSlot(t, x, 0, 0, true)
	if x.Len() != 2 {
		t.Errorf("Len() = %d", x.Len())
	}
	wantDrop(t, x, 0, 0, true)
	wantDrop(t, x, 0, 0, false)
	wantGet(t, x, 0, 0, false)
	wantGet(t, x, math.MaxUint64, 7, true)
}

// Of a key that is not there nothing is told, though another one lies at its home.
func TestP604Not(t *testing.T) {
	x, _ := made(t, 4)
	a := keysAt(8, 5, 4)
	for i, key := range a[:3] {
		wantPut(t, x, key, 70+i, api.OK)
	}
	wantGet(t, x, a[3], 0, false)
	wantSlot(t, x, a[3], 0, false)
	wantDrop(t, x, a[3], 0, false)
	if x.Len() != 3 {
		t.Errorf("Len() = %d", x.Len())
	}
}

// A key at its home stays there, and one behind it goes to the place that became empty.
func TestP605Stays(t *testing.T) {
	x, _ := made(t, 4)
	a, b := keysAt(8, 2, 3), keysAt(8, 3, 1)
	wantPut(t, x, a[0], 1, api.OK) // 2
	wantPut(t, x, b[0], 2, api.OK) // 3, its home
	wantPut(t, x, a[1], 3, api.OK) // 4
	wantPut(t, x, a[2], 4, api.OK) // 5
	wantDrop(t, x, a[0], 1, true)
	wantSlot(t, x, b[0], 3, true)
	wantSlot(t, x, a[1], 2, true)
	wantSlot(t, x, a[2], 4, true)
}

// Behind an empty place nothing is mended.
func TestP605Apart(t *testing.T) {
	x, _ := made(t, 4)
	a, b := keysAt(8, 2, 1), keysAt(8, 4, 2)
	for _, key := range []uint64{a[0], b[0], b[1]} {
		wantPut(t, x, key, 1, api.OK)
	}
	wantDrop(t, x, a[0], 1, true)
	wantSlot(t, x, b[0], 4, true)
	wantSlot(t, x, b[1], 5, true)
}

// Homes and places on both sides of the last place.
func TestP605Around(t *testing.T) {
	last, first, sixth := keysAt(8, 7, 2), keysAt(8, 0, 1), keysAt(8, 6, 1)
	keys := []uint64{sixth[0], last[0], last[1], first[0]} // at 6, 7, 0, 1
	for gone, want := range [][]int{{0, 7, 0, 1}, {6, 0, 7, 0}, {6, 7, 0, 0}, {6, 7, 0, 0}} {
		x, _ := made(t, 4)
		for i, key := range keys {
			wantPut(t, x, key, i, api.OK)
			wantSlot(t, x, key, (6+i)%8, true)
		}
		wantDrop(t, x, keys[gone], gone, true)
		for i, key := range keys {
			if i == gone {
				wantSlot(t, x, key, 0, false)
				continue
			}
			wantSlot(t, x, key, want[i], true)
			wantGet(t, x, key, i, true)
		}
	}
}

func TestP606All(t *testing.T) {
	x, _ := made(t, 1000)
	keys := edgeKeys()
	for i, key := range keys {
		wantPut(t, x, key, i, api.OK)
	}
	slices.Sort(keys)
	keys = slices.Compact(keys)
	all := gone(x.All())
	if len(all) != len(keys) || x.Len() != len(keys) {
		t.Fatalf("%d keys, want %d", len(all), len(keys))
	}
	for i, key := range keys {
		if all[i].key != key {
			t.Fatalf("key %d is %d, want %d", i, all[i].key, key)
		}
		wantGet(t, x, key, all[i].held, true)
	}
}

func TestP606Twin(t *testing.T) {
	keys := append(keysAt(8, 7, 3), keysAt(8, 0, 2)...)
	eachForm(4, keys, func(row []call) {
		x, p := behindRow(t, 4, row)
		for _, c := range calls(keys) {
			y, q := x.Twin(), p.twin()
			wantAll(t, y, q, keys)
			wantCall(t, y, q, c, 100)
			wantAll(t, y, q, keys)
			wantAll(t, x, p, keys)
			z, s := y.Twin(), q.twin()
			wantCall(t, y, q, c, 101)
			wantAll(t, z, s, keys)
		}
	})
}

// The one that was there first may change as well, and each has room of its own.
func TestP606TwinStays(t *testing.T) {
	x, p := made(t, 200)
	var keys []uint64
	for key := range uint64(100) {
		keys = append(keys, key*key, 1<<40+key)
		wantCall(t, x, p, call{"Put", key * key}, int(key))
	}
	y, q := x.Twin(), p.twin()
	for i, key := range keys {
		wantCall(t, x, p, call{"Put", key}, 1000+i)
	}
	wantAll(t, y, q, keys)
	for i, key := range keys[:50] {
		wantCall(t, y, q, call{"Put", key}, 2000+i)
		wantCall(t, x, p, call{"Drop", key}, 0)
	}
	wantAll(t, x, p, keys)
	wantAll(t, y, q, keys)
}

func TestP606TwinMost(t *testing.T) {
	for most := range 5 {
		x, p := made(t, most)
		y, q := x.Twin(), p.twin()
		for key := range uint64(6) {
			wantCall(t, y, q, call{"Put", key}, int(key))
		}
		wantAll(t, y, q, []uint64{0, 1, 2, 3, 4, 5})
		wantAll(t, x, p, []uint64{0, 1, 2, 3, 4, 5})
	}
}
