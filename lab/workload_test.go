package lab_test

import (
	"math/big"
	"slices"
	"testing"

	"winnow/api"
	"winnow/lab"
)

// plainRandom are the first random numbers of a seed, by numbers that have no end.
func plainRandom(seed uint64, n int) []uint64 {
	number := func(text string) *big.Int {
		x, _ := new(big.Int).SetString(text, 10)
		return x
	}
	all := new(big.Int).Lsh(big.NewInt(1), 64)
	stir := func(z *big.Int, by uint, times string) *big.Int {
		z = new(big.Int).Xor(z, new(big.Int).Rsh(z, by))
		return z.Mod(z.Mul(z, number(times)), all)
	}
	s := new(big.Int).SetUint64(seed)
	var list []uint64
	for range n {
		s.Mod(s.Add(s, number("11400714819323198485")), all)
		z := stir(s, 30, "13787848793156543929")
		z = stir(z, 27, "10723151780598845931")
		list = append(list, new(big.Int).Xor(z, new(big.Int).Rsh(z, 31)).Uint64())
	}
	return list
}

func plainUniform(seed uint64, n, keys int) []uint64 {
	list := plainRandom(seed, n)
	for i := range list {
		list[i] %= uint64(keys)
	}
	return list
}

func plainLoop(n, keys int) []uint64 {
	var list []uint64
	for k := range n {
		list = append(list, uint64(k-k/keys*keys))
	}
	return list
}

// float is a number that is rounded to 53 bits at each step, to the nearest, of two as near to the even one.
func float(n uint64) *big.Float {
	return new(big.Float).SetPrec(53).SetMode(big.ToNearestEven).SetUint64(n)
}

// plainZipf goes over all sums, one behind the other, for each key.
func plainZipf(seed uint64, n, keys int) []uint64 {
	sums := []*big.Float{float(1)}
	for i := 1; i < keys; i++ {
		part := float(0).Quo(float(1), float(uint64(i+1)))
		sums = append(sums, float(0).Add(sums[i-1], part))
	}
	var list []uint64
	for _, r := range plainRandom(seed, n) {
		u := float(0).Quo(float(r>>11), float(9007199254740992))
		u.Mul(u, sums[keys-1])
		least := slices.IndexFunc(sums, func(sum *big.Float) bool { return u.Cmp(sum) < 0 })
		if least < 0 {
			least = keys - 1
		}
		list = append(list, uint64(least))
	}
	return list
}

func uniform(t *testing.T, seed uint64, n, keys int) []uint64 {
	t.Helper()
	return right(t, n)(lab.Uniform(seed, n, keys))
}

func zipf(t *testing.T, seed uint64, n, keys int) []uint64 {
	t.Helper()
	return right(t, n)(lab.Zipf(seed, n, keys))
}

func loop(t *testing.T, n, keys int) []uint64 {
	t.Helper()
	return right(t, n)(lab.Loop(n, keys))
}

// right wants so many keys and no error.
func right(t *testing.T, n int) func([]uint64, api.Errno) []uint64 {
	return func(list []uint64, err api.Errno) []uint64 {
		t.Helper()
		if err != api.OK || len(list) != n {
			t.Fatalf("%d keys, %v; want %d", len(list), err, n)
		}
		return list
	}
}

func wantKeys(t *testing.T, got, want []uint64) {
	t.Helper()
	if !slices.Equal(got, want) {
		t.Errorf("%v; want %v", got, want)
	}
}

// The numbers of these seeds are widely known.
func TestP2101Known(t *testing.T) {
	known := map[uint64][]uint64{
		0:       {0xe220a8397b1dcdaf, 0x6e789e6aa1b965f4, 0x06c45d188009454f, 0xf88bb8a8724c81ec, 0x1b39896a51a8749b},
		1234567: {6457827717110365317, 3203168211198807973, 9817491932198370423, 4593380528125082431, 16408922859458223821},
	}
	for seed, list := range known {
		wantKeys(t, plainRandom(seed, 5), list)
		for _, keys := range []int{1, 2, 10, 1000, 4194303, api.MaxKeys} {
			var want []uint64
			for _, z := range list {
				want = append(want, z%uint64(keys))
			}
			wantKeys(t, uniform(t, seed, 5, keys), want)
		}
	}
	wantKeys(t, uniform(t, 0, 1, 1<<22), []uint64{1953199})
}

var seeds = []uint64{0, 1, 2, 7, 1 << 32, 1<<63 - 1, 1 << 63, 1<<64 - 1, 7046029254386353131, 7046029254386353130, 12345678901234567890}

func TestP2101Uniform(t *testing.T) {
	for _, seed := range seeds {
		for _, keys := range []int{1, 2, 3, 10, 97, 65536, 1000000, api.MaxKeys - 1, api.MaxKeys} {
			want := plainUniform(seed, 60, keys)
			for _, n := range []int{0, 1, 2, 59, 60} {
				wantKeys(t, uniform(t, seed, n, keys), want[:n])
			}
		}
	}
}

func TestP2101Loop(t *testing.T) {
	wantKeys(t, loop(t, 5, 3), []uint64{0, 1, 2, 0, 1})
	wantKeys(t, loop(t, 3, 1), []uint64{0, 0, 0})
	wantKeys(t, loop(t, 3, api.MaxKeys), []uint64{0, 1, 2})
	for n := range 30 {
		for keys := 1; keys < 32; keys++ {
			wantKeys(t, loop(t, n, keys), plainLoop(n, keys))
		}
	}
}

func TestP2102(t *testing.T) {
	for _, seed := range seeds {
		for _, keys := range []int{1, 2, 3, 4, 10, 31, 1000} {
			want := plainZipf(seed, 60, keys)
			for _, n := range []int{0, 1, 60} {
				wantKeys(t, zipf(t, seed, n, keys), want[:n])
			}
		}
	}
	for seed := range uint64(40) {
		keys := int(1 + seed*seed)
		wantKeys(t, zipf(t, seed, 30, keys), plainZipf(seed, 30, keys))
	}
	wantKeys(t, zipf(t, 3, 20, 30000), plainZipf(3, 20, 30000))
}

// seedOf is the seed whose first random number is this one: each step of its making is undone.
func seedOf(t *testing.T, z uint64) uint64 {
	t.Helper()
	want := z
	over := func(n uint64) uint64 { // what n times is undone by
		x := n
		for range 6 {
			x *= 2 - n*x
		}
		return x
	}
	z = (z ^ z>>31 ^ z>>62) * over(10723151780598845931)
	z = (z ^ z>>27 ^ z>>54) * over(13787848793156543929)
	seed := z ^ z>>30 ^ z>>60
	seed -= 11400714819323198485
	if got := plainRandom(seed, 1)[0]; got != want {
		t.Fatalf("the seed %d gives %d; want %d", seed, got, want)
	}
	return seed
}

// Random numbers by which u is just a sum, or the next one to it, or the least or the greatest of all.
func TestP2102Edges(t *testing.T) {
	const all = 1 << 53
	equal := 0
	for _, keys := range []int{1, 2, 3, 4, 5, 10, 33, 100} {
		sums := []float64{1}
		for i := 1; i < keys; i++ {
			sums = append(sums, sums[i-1]+1/float64(i+1))
		}
		near := []int{0, 1, all - 2, all - 1}
		for _, sum := range sums[:keys-1] {
			at := int(sum / sums[keys-1] * all)
			near = append(near, at-2, at-1, at, at+1, at+2)
		}
		for _, n := range near {
			seed := seedOf(t, uint64(n)<<11|uint64(n)*7%2048)
			got := zipf(t, seed, 1, keys)
			wantKeys(t, got, plainZipf(seed, 1, keys))
			if u := float64(n) / all * sums[keys-1]; got[0] > 0 && u == sums[got[0]-1] {
				equal++
			}
		}
		wantKeys(t, zipf(t, seedOf(t, 0), 1, keys), []uint64{0})
		wantKeys(t, zipf(t, seedOf(t, 1<<64-1), 1, keys), []uint64{uint64(keys - 1)})
	}
	if equal < 10 {
		t.Errorf("only %d times u was a sum", equal)
	}
}

// A key that is half as often asked for as another one stands twice as far down.
func TestP2102Often(t *testing.T) {
	count := make([]int, 20)
	for _, key := range zipf(t, 11, 400000, 20) {
		count[key]++
	}
	for i, n := range count {
		if want := count[0] / (i + 1); n < want*9/10 || n > want*11/10 {
			t.Errorf("key %d: %d times, key 0: %d", i, n, count[0])
		}
	}
}

// wrong are numbers that there may not be: of keys, of unlike ones.
var wrong = [][2]int{
	{-1, 1}, {api.MaxKeys + 1, 1}, {1, 0}, {1, -1}, {1, api.MaxKeys + 1}, {0, 0}, {-1, 0}, {-1 << 63, 5}, {1<<63 - 1, 5}, {5, -1 << 63}, {5, 1<<63 - 1}, {-1 << 63, -1 << 63},
}

func TestWorkloadsRefused(t *testing.T) {
	for _, x := range wrong {
		for _, seed := range seeds {
			if list, err := lab.Uniform(seed, x[0], x[1]); err != api.ErrArg || list != nil {
				t.Errorf("P2101: Uniform of %v: %v, %v", x, list, err)
			}
			if list, err := lab.Zipf(seed, x[0], x[1]); err != api.ErrArg || list != nil {
				t.Errorf("P2102: Zipf of %v: %v, %v", x, list, err)
			}
		}
		if list, err := lab.Loop(x[0], x[1]); err != api.ErrArg || list != nil {
			t.Errorf("P2101: Loop of %v: %v, %v", x, list, err)
		}
	}
}

// As many keys as there may be; a row's front is the shorter row.
func TestWorkloadsLarge(t *testing.T) {
	const most = api.MaxKeys
	list := uniform(t, 5, most, most)
	wantKeys(t, list[:50], plainUniform(5, 50, most))
	if slices.Max(list) >= most || slices.Max(list) < most-100 || slices.Min(list) > 100 {
		t.Errorf("P2101: from %d to %d", slices.Min(list), slices.Max(list))
	}
	list = loop(t, most, most)
	for k, key := range list {
		if key != uint64(k) {
			t.Fatalf("P2101: the key %d is %d", k, key)
		}
	}
	list = loop(t, most, most-1)
	if list[most-2] != most-2 || list[most-1] != 0 {
		t.Errorf("P2101: %d, %d", list[most-2], list[most-1])
	}
	list = zipf(t, 5, most, most)
	wantKeys(t, list[:1000], zipf(t, 5, 1000, most))
	wantLeast(t, list[:300], most)
	if slices.Max(list) >= most || slices.Max(list) < most-1000 {
		t.Errorf("P2102: up to %d", slices.Max(list))
	}
}

// wantLeast wants the keys of seed 5 to be those whose sums are the first above u.
func wantLeast(t *testing.T, list []uint64, keys int) {
	t.Helper()
	sums := make([]float64, keys)
	sums[0] = 1
	for i := 1; i < keys; i++ {
		sums[i] = sums[i-1] + 1/float64(i+1)
	}
	for i, r := range plainRandom(5, len(list)) {
		u := float64(r>>11) / (1 << 53) * sums[keys-1]
		if key := list[i]; u >= sums[key] || key > 0 && u < sums[key-1] {
			t.Errorf("P2102: %v: key %d", u, key)
		}
	}
}
