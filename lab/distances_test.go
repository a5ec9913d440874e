package lab_test

import (
	"fmt"
	"math"
	"math/rand"
	"slices"
	"testing"

	"winnow/api"
	"winnow/engine"
	"winnow/lab"
	"winnow/model"
)

// plainDistances goes back from each key to where it stood last.
func plainDistances(keys []uint64) []int {
	list := make([]int, len(keys))
	for at, key := range keys {
		unlike := map[uint64]int{}
		for was := at - 1; was >= 0; was-- {
			unlike[keys[was]] = 1
			if keys[was] == key {
				list[at] = len(unlike)
				break
			}
		}
	}
	return list
}

func plainCurve(distances []int, most int) []int {
	var list []int
	for k := 1; k <= most; k++ {
		count := 0
		for _, d := range distances {
			if 1 <= d && d <= k {
				count++
			}
		}
		list = append(list, count)
	}
	return list
}

func wantDistances(t *testing.T, keys []uint64) []int {
	t.Helper()
	got, want := lab.Distances(keys), plainDistances(keys)
	if !slices.Equal(got, want) {
		t.Fatalf("%v: %v; want %v", keys, got, want)
	}
	return got
}

func wantCurve(t *testing.T, distances []int, most int) []int {
	t.Helper()
	got, err := lab.Curve(distances, most)
	if want := plainCurve(distances, most); err != api.OK || !slices.Equal(got, want) {
		t.Fatalf("%v: %v, %v; want %v", distances, got, err, want)
	}
	return got
}

func TestP2103Examples(t *testing.T) {
	got := lab.Distances([]uint64{5, 6, 5, 5, 6})
	if !slices.Equal(got, []int{0, 0, 2, 1, 2}) {
		t.Errorf("%v", got)
	}
	if curve, err := lab.Curve(got, 3); err != api.OK || !slices.Equal(curve, []int{1, 3, 3}) {
		t.Errorf("%v, %v", curve, err)
	}
	if got := lab.Distances(nil); len(got) != 0 {
		t.Errorf("%v", got)
	}
	const last = math.MaxUint64
	if got := lab.Distances([]uint64{0, last, 1 << 63, 0, last, last, 1 << 63, 0}); !slices.Equal(got, []int{0, 0, 0, 3, 3, 1, 3, 3}) {
		t.Errorf("%v", got)
	}
}

// eachRow goes over all rows of so many keys: a key is one that stands ahead of it, or the next new one.
func eachRow(n int, do func([]uint64)) {
	list := make([]uint64, n)
	var put func(at int, fresh uint64)
	put = func(at int, fresh uint64) {
		if at == n {
			do(list)
			return
		}
		for key := range fresh + 1 {
			list[at] = key
			put(at+1, max(fresh, key+1))
		}
	}
	put(0, 0)
}

func TestP2103ShortRows(t *testing.T) {
	for n := range 9 {
		eachRow(n, func(keys []uint64) {
			wantCurve(t, wantDistances(t, keys), n+1)
		})
	}
}

// asked are keys by chance: some far more often than others, scans, repetitions.
func asked(r *rand.Rand, n, most int) []uint64 {
	var list []uint64
	for len(list) < n {
		first, length := r.Intn(most), r.Intn(most/2+2)
		switch r.Intn(4) {
		case 0:
			for i := range length {
				list = append(list, uint64(first+i)<<50)
			}
		case 1:
			for i := range 3 * length {
				list = append(list, uint64(first+i%length))
			}
		default:
			for range 8 {
				list = append(list, uint64(r.Intn(1+r.Intn(most))))
			}
		}
	}
	return list[:n]
}

func TestP2103Chance(t *testing.T) {
	r := rand.New(rand.NewSource(2103))
	for range 300 {
		wantCurve(t, wantDistances(t, asked(r, r.Intn(400), 1+r.Intn(100))), 1+r.Intn(150))
	}
	wantDistances(t, asked(r, 5000, 3000))
}

func TestP2103Curve(t *testing.T) {
	odd := []int{math.MinInt, -1 << 32, -2, -1, 0, 1, 1, 2, 3, 3, 3, 4, 7, 1 << 20, 1<<20 + 1, 1 << 32, math.MaxInt}
	for most := 1; most < 12; most++ {
		wantCurve(t, odd, most)
		wantCurve(t, nil, most)
	}
	curve, err := lab.Curve(odd, api.MaxCap)
	if err != api.OK || len(curve) != api.MaxCap || curve[0] != 2 || curve[6] != 8 || curve[api.MaxCap-2] != 8 || curve[api.MaxCap-1] != 9 {
		t.Errorf("%d, %v", len(curve), err)
	}
	for _, most := range []int{0, -1, api.MaxCap + 1, math.MinInt, math.MaxInt} {
		for _, list := range [][]int{nil, odd} {
			if curve, err := lab.Curve(list, most); err != api.ErrArg || curve != nil {
				t.Errorf("up to %d: %d, %v", most, len(curve), err)
			}
		}
	}
}

func TestP2103Ratio(t *testing.T) {
	for _, x := range []struct {
		hits, all int
		want      float64
	}{
		{1, 3, 1.0 / 3}, {2, 3, 2.0 / 3}, {0, 5, 0}, {5, 5, 1}, {7, 2, 3.5}, {-1, 4, -0.25},
		{1, 0, 0}, {5, -1, 0}, {0, 0, 0}, {-5, -5, 0}, {5, math.MinInt, 0}, {1, 1, 1},
		// Both are made floats ahead of it: 2^53 + 1 is none, 2^63 - 1 becomes 2^63.
		{1<<53 + 1, 1, 1 << 53}, {1, 1<<53 + 1, 1.0 / (1 << 53)}, {math.MaxInt, 1 << 62, 2}, {math.MinInt, 1, -1 << 63}, {1, math.MaxInt, 1.0 / (1 << 63)},
	} {
		if got := lab.Ratio(x.hits, x.all); got != x.want || math.Signbit(got) != (x.want < 0) {
			t.Errorf("%d by %d: %v; want %v", x.hits, x.all, got, x.want)
		}
	}
}

// Long rows take a time that grows little faster than they do.
func TestP2103Large(t *testing.T) {
	const most = api.MaxKeys
	list := lab.Distances(loop(t, most, most/2))
	for at, d := range list {
		if at < most/2 && d != 0 || at >= most/2 && d != most/2 {
			t.Fatalf("%d: %d", at, d)
		}
	}
	list = lab.Distances(loop(t, most, 1))
	if curve, err := lab.Curve(list, 1); err != api.OK || curve[0] != most-1 {
		t.Errorf("%v, %v", curve, err)
	}
	keys := uniform(t, 9, 1000000, 300000)
	list = lab.Distances(keys)
	if !slices.Equal(list[:2000], plainDistances(keys[:2000])) || slices.Max(list) > 300000 {
		t.Error("of a front of the row")
	}
}

func lru(t *testing.T, size int) *engine.Engine {
	t.Helper()
	text, _ := model.Source(api.LLru)
	c, _ := model.Caps(api.LLru, size)
	e, fault := engine.Load([]byte(text), c)
	if fault != (api.Fault{}) {
		t.Fatal(size, fault)
	}
	return e
}

// wantHits wants the LRU of each size to have as many hits as the curve tells.
func wantHits(t *testing.T, keys []uint64, most int) {
	t.Helper()
	curve, err := lab.Curve(lab.Distances(keys), most)
	if err != api.OK || len(curve) != most {
		t.Fatal(len(curve), err)
	}
	for size := 1; size <= most; size++ {
		e := lru(t, size)
		for _, key := range keys {
			e.Access(key)
		}
		if got := e.Stats().Hits; got != curve[size-1] {
			t.Fatalf("%v: size %d: %d hits; want %d", keys, size, got, curve[size-1])
		}
	}
}

func TestP2106(t *testing.T) {
	eachRow(6, func(keys []uint64) { wantHits(t, keys, 7) })
	r := rand.New(rand.NewSource(2106))
	for range 40 {
		most := 1 + r.Intn(40)
		wantHits(t, asked(r, 500, most), most+2)
	}
	wantHits(t, zipf(t, 21, 3000, 200), 60)
	wantHits(t, uniform(t, 21, 3000, 60), 62)
	wantHits(t, loop(t, 3000, 40), 42)
}

// The same, in scripts.
func TestP2106Script(t *testing.T) {
	const most = 30
	script := fmt.Sprintf("curve 4 2000 100 %d\n", most)
	for size := 1; size <= most; size++ {
		script += fmt.Sprintf("load lru %d\nzipf 4 2000 100\n", size)
	}
	got := answers(t, script)
	curve, _ := lab.Curve(lab.Distances(zipf(t, 4, 2000, 100)), most)
	if want := "ok " + list(curve); got[0] != want {
		t.Errorf("%s; want %s", got[0], want)
	}
	for size := 1; size <= most; size++ {
		want := fmt.Sprintf("ok %d %d", curve[size-1], 2000-curve[size-1]-size)
		if got[2*size-1] != "ok" || got[2*size] != want {
			t.Errorf("size %d: %s; want %s", size, got[2*size], want)
		}
	}
}
