// Package samples has the numbers that the tests of several packages have in common.
package samples

import (
	"slices"

	"wattlework/api"
)

// Lists returns lists of several lengths and orders, with the edges of ints among their numbers.
func Lists() [][]int {
	return [][]int{
		nil,
		{},
		{7},
		{0},
		{0, 0},
		{3, 5},
		{5, 3},
		{5, 3, 8},
		{5, 3, 8, 1},
		{5, 3, 8, 3},
		{-4, -4, 2, -4, -4},
		{api.Greatest, api.Least, 0, -1, 1},
		{api.Least, api.Least, api.Greatest, api.Greatest},
		{api.Least, api.Least + 1, api.Greatest - 1, api.Greatest},
		{1, 2, 3, 4, 5, 6, 7, 8},
		{9, 8, 7, 6, 5, 4, 3, 2, 1},
		Many(14),
		Many(31),
		Many(32),
		Many(33),
		Many(100),
	}
}

// Many returns n numbers, some of which come more than once if n is not small.
func Many(n int) []int {
	var l []int
	for i := range n {
		l = append(l, i*i*7919%101-50)
	}
	return l
}

// Rising returns the numbers from 0 to n - 1.
func Rising(n int) []int {
	l := make([]int, n)
	for i := range l {
		l[i] = i
	}
	return l
}

// Outside returns indices that a list of n numbers does not have.
func Outside(n int) []int {
	return []int{
		api.Least, api.Least + 1, -n - 2, -n - 1, -2, -1,
		n, n + 1, 2*n + 1, 1 << 32, 1 << 40, api.Greatest - 1, api.Greatest,
	}
}

// Near returns the numbers with their neighbours, and the edges of ints, once each in ascending order.
func Near(numbers []int) []int {
	all := []int{0, api.Least, api.Greatest}
	for _, x := range numbers {
		// The neighbours of the edges of ints are those of the other edge.
		all = append(all, x-1, x, x+1)
	}
	slices.Sort(all)
	return slices.Compact(all)
}
