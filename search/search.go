// Package search has the binary search trees that represent sets of numbers: what holds for them however they are
// balanced.
package search

import (
	"slices"

	"wattlework/api"
)

// Tree is a number and the trees below it, of which the left one has lesser numbers, and the right one greater ones.
// Nil is the tree without numbers. The mark is up to the package that makes the tree.
// It is never changed, because any number of sets and trees may share it.
type Tree struct {
	Key, Mark   int
	Left, Right *Tree
}

// Distinct returns the numbers of a list once each, in ascending order.
func Distinct(l []int) []int {
	sorted := slices.Clone(l)
	slices.Sort(sorted)
	return slices.Compact(sorted)
}

// Has reports whether x is in the tree.
func (t *Tree) Has(x int) bool {
	for t != nil && t.Key != x {
		if x < t.Key {
			t = t.Left
		} else {
			t = t.Right
		}
	}
	return t != nil
}

// Least returns the least number of a tree that has any.
func (t *Tree) Least() int {
	for t.Left != nil {
		t = t.Left
	}
	return t.Key
}

// Ints returns all numbers, in ascending order.
func (t *Tree) Ints() []int {
	var numbers []int
	t.Each(func(x int) {
		numbers = append(numbers, x)
	})
	return numbers
}

// Each calls f with every number, in ascending order.
func (t *Tree) Each(f func(x int)) {
	// A path may go through all numbers if a tree is not balanced, which is too deep for a call at each of them.
	var above []*Tree
	for t != nil || len(above) > 0 {
		for ; t != nil; t = t.Left {
			above = append(above, t)
		}
		last := len(above) - 1
		t, above = above[last], above[:last]
		f(t.Key)
		t = t.Right
	}
}

// Shape returns the nodes of the tree in preorder. The index of an empty tree is -1.
func (t *Tree) Shape() []api.Node {
	// waiting is a tree on the right, whose index is known only behind all nodes on the left.
	type waiting struct {
		tree  *Tree
		above int
	}
	var nodes []api.Node
	var right []waiting
	for t != nil || len(right) > 0 {
		if t == nil {
			last := len(right) - 1
			t = right[last].tree
			nodes[right[last].above].Right = len(nodes)
			right = right[:last]
		}
		node := api.Node{Key: t.Key, Left: -1, Right: -1, Mark: t.Mark}
		if t.Left != nil {
			node.Left = len(nodes) + 1
		}
		if t.Right != nil {
			right = append(right, waiting{tree: t.Right, above: len(nodes)})
		}
		nodes = append(nodes, node)
		t = t.Left
	}
	return nodes
}
