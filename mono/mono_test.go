package mono

import (
	"fmt"
	"math/big"
	"slices"
	"testing"

	"wattlework/api"
)

// samples are lists with the edges of numbers, of the modulus and of the hash among them.
func samples() [][]int {
	return [][]int{
		nil,
		{},
		{0},
		{0, 0, 0},
		{5, 3},
		{3, 5},
		{-1, -1},
		{7, -2, 7, 100, -30},
		{api.Prime - 1, api.Prime, api.Prime + 1},
		{-api.Prime - 1, -api.Prime, -api.Prime + 1},
		{api.Greatest, api.Least, api.Greatest, 1},
		{api.Least, api.Least, -1},
		many(300),
	}
}

// many returns n numbers that are spread over all ints.
func many(n int) []int {
	l := make([]int, n)
	x := uint64(1)
	for i := range l {
		x = x*6364136223846793005 + 1442695040888963407
		l[i] = int(x)
	}
	return l
}

// measured computes a measure as MO1 states it, the hash in unbounded numbers.
func measured(l []int) api.Measure {
	m := api.Measure{N: len(l), Least: 1<<63 - 1, Most: -1 << 63}
	prime := big.NewInt(1<<31 - 1)
	hash := new(big.Int)
	for _, x := range l {
		m.Sum += x
		if x < m.Least {
			m.Least = x
		}
		if x > m.Most {
			m.Most = x
		}
		// big.Int's Mod is never negative.
		r := new(big.Int).Mod(big.NewInt(int64(x)), prime)
		hash.Mul(hash, big.NewInt(131))
		hash.Add(hash, r)
		hash.Add(hash, big.NewInt(1))
		hash.Mod(hash, prime)
	}
	m.Hash = int(hash.Int64())
	return m
}

// joinedHash computes a hash as MO2 states it, in unbounded numbers.
func joinedHash(a, b api.Measure) int {
	prime := big.NewInt(1<<31 - 1)
	factor := big.NewInt(1)
	if b.N > 0 {
		factor.Exp(big.NewInt(131), big.NewInt(int64(b.N)), prime)
	}
	hash := new(big.Int).Mul(factor, big.NewInt(int64(a.Hash)))
	hash.Add(hash, big.NewInt(int64(b.Hash)))
	return int(hash.Mod(hash, prime).Int64())
}

// MO1: the empty list has the extreme ints the wrong way round, and no hash.
func TestNone(t *testing.T) {
	want := api.Measure{N: 0, Sum: 0, Least: 9223372036854775807, Most: -9223372036854775808, Hash: 0}
	if got := None(); got != want {
		t.Errorf("None() = %v, want %v", got, want)
	}
	if got := Of(nil); got != want {
		t.Errorf("Of(nil) = %v, want %v", got, want)
	}
	if got := Of([]int{}); got != want {
		t.Errorf("Of([]) = %v, want %v", got, want)
	}
}

// MO1: a single number; its remainder is never negative, and one more than the last remainder is 0.
func TestOne(t *testing.T) {
	hashes := map[int]int{
		0:                    1,
		1:                    2,
		-1:                   0,
		-2:                   2147483646,
		2147483645:           2147483646,
		2147483646:           0,
		2147483647:           1,
		2147483648:           2,
		-2147483647:          1,
		-2147483648:          0,
		9223372036854775807:  2,
		-9223372036854775808: 2147483646,
	}
	for x, hash := range hashes {
		want := api.Measure{N: 1, Sum: x, Least: x, Most: x, Hash: hash}
		if got := One(x); got != want {
			t.Errorf("One(%d) = %v, want %v", x, got, want)
		}
		if got := Of([]int{x}); got != want {
			t.Errorf("Of([%d]) = %v, want %v", x, got, want)
		}
	}
}

// MO1: the measure of any list.
func TestOf(t *testing.T) {
	if got, want := Of([]int{5, 3}), (api.Measure{N: 2, Sum: 8, Least: 3, Most: 5, Hash: 790}); got != want {
		t.Errorf("Of([5 3]) = %v, want %v", got, want)
	}
	for _, l := range samples() {
		if got, want := Of(l), measured(l); got != want {
			t.Errorf("Of(%v) = %v, want %v", l, got, want)
		}
	}
}

// MO1: the hash depends on the order, and the other parts do not.
func TestOfOrder(t *testing.T) {
	a, b := Of([]int{5, 3}), Of([]int{3, 5})
	if a.Hash == b.Hash {
		t.Errorf("Of([5 3]) and Of([3 5]) have the same hash %d", a.Hash)
	}
	a.Hash, b.Hash = 0, 0
	if a != b {
		t.Errorf("apart from the hash, Of([5 3]) is %v, Of([3 5]) is %v", a, b)
	}
}

// P4: sums wrap around.
func TestSumWraps(t *testing.T) {
	if got := Of([]int{api.Greatest, 1}).Sum; got != api.Least {
		t.Errorf("the sum of the greatest int and 1 is %d", got)
	}
	if got := Join(One(api.Least), One(-1)).Sum; got != api.Greatest {
		t.Errorf("the sum of the least int and -1 is %d", got)
	}
}

// P2: an argument is not changed, nor the memory behind its length.
func TestOfKeepsArgument(t *testing.T) {
	whole := []int{4, -9, 2, 77, 78}
	before := slices.Clone(whole)
	Of(whole[:3])
	if !slices.Equal(whole, before) {
		t.Errorf("Of changed its argument: %v", whole)
	}
}

// MO2: the measures of the two parts of a list give that of the whole, wherever it is cut.
func TestJoinParts(t *testing.T) {
	for _, l := range samples() {
		want := measured(l)
		for i := range len(l) + 1 {
			if got := Join(Of(l[:i]), Of(l[i:])); got != want {
				t.Errorf("Join of %v cut at %d = %v, want %v", l, i, got, want)
			}
		}
	}
}

// MO2: measures form a monoid.
func TestMonoid(t *testing.T) {
	for _, a := range samples() {
		m := Of(a)
		if Join(None(), m) != m || Join(m, None()) != m {
			t.Errorf("None is not neutral for %v", m)
		}
		for _, b := range samples() {
			for _, c := range samples() {
				left := Join(Join(Of(a), Of(b)), Of(c))
				right := Join(Of(a), Join(Of(b), Of(c)))
				if left != right {
					t.Errorf("Join of %v, %v, %v is %v or %v", a, b, c, left, right)
				}
			}
		}
	}
}

// MO2: Least and Most are those of either part.
func TestJoinLeastMost(t *testing.T) {
	low := api.Measure{N: 1, Least: -4, Most: 6}
	high := api.Measure{N: 1, Least: 3, Most: 9}
	for _, got := range []api.Measure{Join(low, high), Join(high, low)} {
		if got.Least != -4 || got.Most != 9 {
			t.Errorf("Least %d and Most %d, want -4 and 9", got.Least, got.Most)
		}
	}
}

// MO2: values that no list has; both hashes are reduced first, and an N below 1 multiplies nothing.
func TestJoinOfAnything(t *testing.T) {
	hashes := []int{0, 1, 790, -1, -131, api.Prime - 1, api.Prime, -api.Prime, api.Prime + 5, api.Greatest, api.Least}
	counts := []int{0, 1, 2, 3, -1, -2, 130, 1000, api.Prime - 1, api.Prime, 1 << 62, api.Greatest, api.Least}
	for _, ha := range hashes {
		for _, hb := range hashes {
			for _, n := range counts {
				a := api.Measure{N: 2, Sum: 1, Least: 1, Most: 0, Hash: ha}
				b := api.Measure{N: n, Sum: -3, Least: -5, Most: -6, Hash: hb}
				want := api.Measure{N: 2 + n, Sum: -2, Least: -5, Most: 0, Hash: joinedHash(a, b)}
				if got := Join(a, b); got != want {
					t.Errorf("Join(%v, %v) = %v, want %v", a, b, got, want)
				}
			}
		}
	}
}

// MO2: a hash given by hand, so that the test does not rest on big numbers alone.
func TestJoinHashByHand(t *testing.T) {
	cases := []struct{ ha, n, hb, want int }{
		{6, 1, 4, 790},
		{6, 2, 4, 6*131*131 + 4},
		{6, 0, 4, 10},
		{6, -7, 4, 10},
		{-1, 0, 0, 2147483646},
		{-1, 0, 1, 0},
		{0, 5, -3, 2147483644},
		{2147483647, 1, 2147483647, 0},
		// By Fermat's theorem the factor is 1 again.
		{6, 2147483646, 4, 10},
		{6, 2147483647, 4, 790},
	}
	for _, c := range cases {
		a, b := api.Measure{Hash: c.ha}, api.Measure{N: c.n, Hash: c.hb}
		if got := Join(a, b).Hash; got != c.want {
			t.Errorf("the hash of %d, and of %d numbers %d, is %d, want %d", c.ha, c.n, c.hb, got, c.want)
		}
	}
}

// P4: the number of numbers wraps around as well.
func TestJoinCountWraps(t *testing.T) {
	if got := Join(api.Measure{N: api.Greatest}, One(0)).N; got != api.Least {
		t.Errorf("N is %d", got)
	}
}

func ExampleOf() {
	m := Of([]int{5, 3})
	fmt.Println(m.N, m.Sum, m.Least, m.Most, m.Hash)
	// Output: 2 8 3 5 790
}

func ExampleJoin() {
	fmt.Println(Join(One(5), One(3)) == Of([]int{5, 3}))
	// Output: true
}
