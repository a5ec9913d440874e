package lab_test

import (
	"math/rand"
	"slices"
	"testing"

	"winnow/lab"
)

// spare is a list with spare room behind it, in which something stands.
func spare[T any](list []T, last T) []T {
	return append(slices.Clone(list), last, last)[:len(list)]
}

// whole is a list with what stands in its spare room.
func whole[T any](list []T) []T { return slices.Clone(list[:cap(list)]) }

// fill puts something in all of a list, and into its spare room.
func fill[T any](list []T, value T) {
	for i := range list[:cap(list)] {
		list[:cap(list)][i] = value
	}
}

func TestP2NothingIsChanged(t *testing.T) {
	r := rand.New(rand.NewSource(2))
	for range 200 {
		keys := spare(asked(r, r.Intn(60), 1+r.Intn(20)), 77)
		wasKeys := whole(keys)
		distances := spare(lab.Distances(keys), 3)
		wasDistances := whole(distances)
		lab.Curve(distances, 1+r.Intn(20))
		lab.Curve(distances, 0)
		b := spare([]byte("a\n\\\"\xff"), '@')
		wasBytes := whole(b)
		lab.Quote(b)
		if !slices.Equal(whole(keys), wasKeys) || !slices.Equal(whole(distances), wasDistances) || !slices.Equal(whole(b), wasBytes) {
			t.Fatalf("%v, %v, %q", keys, distances, b)
		}
	}
}

// Answers are new: what is put there, spare room too, is seen in no other one.
func TestP2AnswersAreApart(t *testing.T) {
	keys := []uint64{5, 6, 5, 5, 6}
	for range 3 {
		distances := lab.Distances(keys)
		curve, _ := lab.Curve(distances, 3)
		words, _ := lab.Words(`a "b" c`)
		first, second, third := uniform(t, 3, 5, 100), zipf(t, 3, 5, 100), loop(t, 5, 3)
		if !slices.Equal(distances, []int{0, 0, 2, 1, 2}) || !slices.Equal(curve, []int{1, 3, 3}) || !slices.Equal(words, []string{"a", "b", "c"}) {
			t.Fatalf("%v, %v, %q", distances, curve, words)
		}
		wantKeys(t, first, plainUniform(3, 5, 100))
		wantKeys(t, second, plainZipf(3, 5, 100))
		wantKeys(t, third, plainLoop(5, 3))
		wantKeys(t, keys, []uint64{5, 6, 5, 5, 6})
		fill(distances, -9)
		fill(curve, -9)
		fill(words, "@")
		fill(first, 99)
		fill(second, 98)
		fill(third, 97)
	}
}
