// Package mono computes measures: what other packages keep of the numbers below a node.
package mono

import (
	"wattlework/api"
)

// base is what a hash is multiplied by for each number behind it.
const base = 131

// None returns the measure of the empty list.
func None() api.Measure {
	return api.Measure{Least: api.Greatest, Most: api.Least}
}

// One returns the measure of a single number.
func One(x int) api.Measure {
	return api.Measure{N: 1, Sum: x, Least: x, Most: x, Hash: (reduce(x) + 1) % api.Prime}
}

// Join returns the measure of two concatenated lists, given their measures.
func Join(a, b api.Measure) api.Measure {
	shifted := reduce(a.Hash) * power(b.N) % api.Prime
	return api.Measure{
		N:     a.N + b.N,
		Sum:   a.Sum + b.Sum,
		Least: min(a.Least, b.Least),
		Most:  max(a.Most, b.Most),
		Hash:  (shifted + reduce(b.Hash)) % api.Prime,
	}
}

// Of returns the measure of a list of numbers.
func Of(l []int) api.Measure {
	m := None()
	for _, x := range l {
		m = Join(m, One(x))
	}
	return m
}

// reduce returns x modulo Prime, from 0 to Prime - 1.
func reduce(x int) int {
	r := x % api.Prime
	if r < 0 {
		// Go's remainder takes the sign of x.
		r += api.Prime
	}
	return r
}

// power returns base to the power of n modulo Prime, 1 if n is less than 1.
// It squares, because a caller may pass a measure with any N up to the greatest int.
func power(n int) int {
	result := 1
	for square := base; n > 0; n /= 2 {
		if n%2 == 1 {
			result = result * square % api.Prime
		}
		square = square * square % api.Prime
	}
	return result
}
