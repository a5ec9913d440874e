package model_test

import (
	"fmt"
	"math"
	"slices"
	"strings"
	"testing"

	"winnow/api"
	"winnow/model"
)

// least are the kinds' least sizes.
var least = []int{1, 1, 1, 2, 10, 1}

func open(t *testing.T, kind, size int) model.Cache {
	t.Helper()
	c, err := model.New(kind, size)
	if err != api.OK || c == nil {
		t.Fatalf("kind %d, size %d: %v", kind, size, err)
	}
	return c
}

// wrong are kinds and sizes of which there is no cache.
func wrong() [][2]int {
	var list [][2]int
	for kind, size := range least {
		for _, n := range []int{size - 1, 0, -1, -size, math.MinInt, api.MaxCap + 1, math.MaxInt, 1 << 32} {
			list = append(list, [2]int{kind, n})
		}
	}
	for _, kind := range []int{-1, api.LCount, api.LCount + 1, 1 << 32, math.MinInt, math.MaxInt} {
		for _, size := range []int{0, 1, 5, 10, 1000, api.MaxCap} {
			list = append(list, [2]int{kind, size})
		}
	}
	return list
}

func TestP1901Refused(t *testing.T) {
	for _, x := range wrong() {
		if c, err := model.New(x[0], x[1]); err != api.ErrArg || c != nil {
			t.Errorf("New(%d, %d): %v, %v", x[0], x[1], c, err)
		}
		if c, err := model.Caps(x[0], x[1]); err != api.ErrArg || c.Size != 0 || len(c.Queues) > 0 {
			t.Errorf("P1910: Caps(%d, %d): %v, %v", x[0], x[1], c, err)
		}
	}
}

func TestP1901Empty(t *testing.T) {
	for kind, first := range least {
		for _, size := range []int{first, first + 1, 100, api.MaxCap - 1, api.MaxCap} {
			c := open(t, kind, size)
			if list := c.Keys(); len(list) > 0 {
				t.Errorf("P1902: kind %d, size %d: %v", kind, size, list)
			}
			for _, key := range []uint64{0, math.MaxUint64, 1 << 63} {
				if hit, gone := c.Access(key); hit || size > 3 && len(gone) > 0 {
					t.Errorf("kind %d, size %d, %d: %v, %v", kind, size, key, hit, gone)
				}
				if hit, gone := c.Access(key); !hit || len(gone) > 0 {
					t.Errorf("kind %d, size %d, %d again: %v, %v", kind, size, key, hit, gone)
				}
			}
		}
	}
}

// row is such as "1 2 5-8": keys, one behind the other.
func row(t *testing.T, text string) []uint64 {
	t.Helper()
	var list []uint64
	for _, word := range strings.Fields(text) {
		var from, to uint64
		if n, _ := fmt.Sscanf(word, "%d-%d", &from, &to); n == 1 {
			to = from
		} else if n == 0 {
			t.Fatal(text)
		}
		for key := from; key <= to; key++ {
			list = append(list, key)
		}
	}
	return list
}

// tell is such as "+" for a hit, "-" for a miss, with the evicted keys behind it.
func tell(hit bool, evicted []uint64) string {
	text := map[bool]string{true: "+", false: "-"}[hit]
	for _, key := range evicted {
		text += fmt.Sprint(",", key)
	}
	return text
}

// Rows of keys, by hand: behind the keys of warm, what those of keys are answered, and what is cached then (P1902 to P1908).
func TestByHand(t *testing.T) {
	for _, c := range []struct {
		what       string
		kind, size int
		warm, keys string
		answers    string
		cached     string
	}{
		// Those of the chapter.
		{"example 1", api.LFifo, 2, "", "1 2 1 3", "- - + -,1", "3 2"},
		{"example 1", api.LLru, 2, "", "1 2 1 3", "- - + -,2", "3 1"},
		{"example 1", api.LClock, 2, "", "1 2 1 3", "- - + -,2", "3 1"},
		{"example 2", api.LTwoQ, 4, "", "1-4", "- - - -", "4 3 2 1"},
		{"example 2", api.LTwoQ, 4, "1-4", "5", "-,1", "5 4 3 2"},
		{"example 2", api.LTwoQ, 4, "1-5", "1", "-,2", "5 4 3 1"},
		{"example 2", api.LTwoQ, 4, "1-5 1", "6", "-,3", "6 5 4 1"},
		{"example 3", api.LS3, 10, "1-10", "1 1 11", "+ + -,2", "11 10 9 8 7 6 5 4 3 1"},
		{"example 3", api.LS3, 10, "1-10 1 1 11", "2", "-,3", "11 10 9 8 7 6 5 4 2 1"},
		{"example 4", api.LArc, 2, "1 2", "1", "+", "2 1"},
		{"example 4", api.LArc, 2, "1 2 1", "3", "-,2", "3 1"},
		{"example 4", api.LArc, 2, "1 2 1 3", "2", "-,1", "3 2"},
		{"example 4", api.LArc, 2, "1 2 1 3 2", "1", "-,3", "1 2"},

		{"a cache of one key", api.LFifo, 1, "", "1 1 2 1", "- + -,1 -,2", "1"},
		{"a cache of one key", api.LLru, 1, "", "1 1 2 1", "- + -,1 -,2", "1"},
		{"a cache of one key, its bit set", api.LClock, 1, "", "1 1 2 1", "- + -,1 -,2", "1"},

		{"a hit changes nothing", api.LFifo, 3, "1-3", "1 2 1 4 5", "+ + + -,1 -,2", "5 4 3"},
		{"a hit brings to the front", api.LLru, 3, "1-3", "1 2 1 4 5", "+ + + -,3 -,2", "5 4 1"},
		{"a hit in the middle", api.LLru, 5, "1-5", "3 3", "+ +", "3 5 4 2 1"},
		{"all bits are set", api.LClock, 3, "1-3 1-3", "4 5", "-,1 -,2", "5 4 3"},
		{"some bits are", api.LClock, 4, "1-4 1 3", "5 6", "-,2 -,4", "6 3 5 1"},
		{"a bit that was cleared", api.LClock, 3, "1-3 1", "4 5 6", "-,2 -,3 -,1", "6 5 4"},
		{"a hit in A changes nothing", api.LTwoQ, 4, "1-4", "1 5", "+ -,1", "5 4 3 2"},
		{"a hit in M", api.LTwoQ, 4, "1-5 1 2", "1 2 1", "+ + +", "5 4 1 2"},
		{"pushed off O's end, yet it goes to M", api.LTwoQ, 2, "1-3", "1", "-,2", "3 1"},
		{"out of M: A has one key", api.LTwoQ, 2, "1-3 1", "4", "-,1", "4 3"},
		{"evicted from M it stands nowhere", api.LTwoQ, 2, "1-3 1 4", "1", "-,3", "1 4"},
		{"O has two: 1 is forgotten, 3 is pushed off its end", api.LTwoQ, 4, "1-7", "1 3", "-,4 -,5", "1 7 6 3"},
		{"O has two: 2 is forgotten behind 1", api.LTwoQ, 4, "1-7 1", "2", "-,5", "2 1 7 6"},

		{"a number of 1 is too small for M", api.LS3, 10, "1-10 1", "11", "-,1", "11 10 9 8 7 6 5 4 3 2"},
		{"M is filled, and S keeps one", api.LS3, 10, "1-10 1-9 1-9", "11", "-,10", "11 9 8 7 6 5 4 3 2 1"},
		{"out of G, M is full", api.LS3, 10, "1-10 1-9 1-9 11", "10", "-,11,1", "10 9 8 7 6 5 4 3 2"},
		{"M is full, and there are nine", api.LS3, 10, "1-10 1-9 1-9 11 10", "11", "-,2", "11 10 9 8 7 6 5 4 3"},
		{"a number is at most 3", api.LS3, 10, "1-10 1-9 1-9 11 1 1 1-9 1-9 1-9", "10", "-,11,1", "10 9 8 7 6 5 4 3 2"},
		{"a number is up to 3", api.LS3, 10, "1-10 1-9 1-9 11 1 1-9 1-9", "10", "-,11,2", "10 1 9 8 7 6 5 4 3"},
		{"M's numbers go down by one", api.LS3, 10, "1-10 1-9 1-9 11 1 1 2", "10", "-,11,3", "10 2 1 9 8 7 6 5 4"},
		{"S is emptied", api.LS3, 10, "1-10 1-10 1-10", "11", "-,1", "11 10 9 8 7 6 5 4 3 2"},
		{"pushed off G's end", api.LS3, 10, "1-19", "1", "-,10", "1 19 18 17 16 15 14 13 12 11"},
		{"in G, and G is full", api.LS3, 10, "1-19 1", "9", "-,11", "1 19 18 17 16 15 14 13 12 9"},

		{"T1 has c keys: 1 stands in no row then", api.LArc, 1, "", "1 2 1 1 2 1", "- -,1 -,2 + -,1 -,2", "1"},
		{"B2 is full", api.LArc, 1, "", "1 2 2 1 2 1 3 2 1", "- -,1 + -,2 -,1 -,2 -,1 -,3 -,2", "1"},
	} {
		m := open(t, c.kind, c.size)
		for _, key := range row(t, c.warm) {
			m.Access(key)
		}
		var answers []string
		for _, key := range row(t, c.keys) {
			answers = append(answers, tell(m.Access(key)))
		}
		if got := strings.Join(answers, " "); got != c.answers {
			t.Errorf("%s, kind %d: %s; want %s", c.what, c.kind, got, c.answers)
		}
		if got := m.Keys(); !slices.Equal(got, row(t, c.cached)) {
			t.Errorf("%s, kind %d: Keys %v; want %s", c.what, c.kind, got, c.cached)
		}
	}
}

func TestP1909(t *testing.T) {
	for kind, name := range []string{"fifo", "lru", "clock", "twoq", "s3fifo", "arc"} {
		if got, err := model.Name(kind); got != name || err != api.OK {
			t.Errorf("Name(%d): %s, %v", kind, got, err)
		}
		if got, err := model.Source(kind); got != published[kind] || err != api.OK {
			t.Errorf("Source(%d): %v\n%s", kind, err, got)
		}
	}
	for _, kind := range []int{-1, api.LCount, api.LCount + 1, -6, 1 << 32, math.MinInt, math.MaxInt} {
		if got, err := model.Name(kind); got != "" || err != api.ErrArg {
			t.Errorf("Name(%d): %s, %v", kind, got, err)
		}
		if got, err := model.Source(kind); got != "" || err != api.ErrArg {
			t.Errorf("Source(%d): %s, %v", kind, got, err)
		}
	}
}

func TestP1910(t *testing.T) {
	for _, c := range []struct {
		kind, size int
		want       []int
	}{
		{api.LFifo, 1, []int{1}},
		{api.LFifo, 7, []int{7}},
		{api.LLru, 1, []int{1}},
		{api.LLru, 12345, []int{12345}},
		{api.LClock, api.MaxCap, []int{api.MaxCap}},
		{api.LTwoQ, 2, []int{2, 1, 2}},
		{api.LTwoQ, 3, []int{3, 1, 3}},
		{api.LTwoQ, 4, []int{4, 2, 4}},
		{api.LTwoQ, 101, []int{101, 50, 101}},
		{api.LS3, 10, []int{10, 9, 9}},
		{api.LS3, 19, []int{19, 18, 18}},
		{api.LS3, 20, []int{20, 18, 18}},
		{api.LS3, 25, []int{25, 23, 23}},
		{api.LS3, api.MaxCap, []int{1048576, 943719, 943719}},
		{api.LArc, 1, []int{1, 1, 1, 1}},
		{api.LArc, 3, []int{3, 3, 3, 3}},
	} {
		if got, err := model.Caps(c.kind, c.size); err != api.OK || got.Size != c.size || !slices.Equal(got.Queues, c.want) {
			t.Errorf("Caps(%d, %d): %v, %v; want %v", c.kind, c.size, got, err, c.want)
		}
	}
}
