// Package search has the binary search trees that represent sets of numbers: what holds for them however they are
// balanced.
package search

import (
	"slices"

	"wattlework/api"
)

// Tree is a number and the trees below it, of which the left one has lesser numbers, and the right one greater ones.
// Nil is the tree without numbers. The mark is up to the package that makes the tree.
// It is never changed, because any number of sets and trees may share it.
type Tree struct {
	Key, Mark   int
	Left, Right *Tree
}

// Distinct returns the numbers of a list once each, in ascending order.
func Distinct(l []int) []int {
	sorted := slices.Clone(l)
	slices.Sort(sorted)
	return slices.Compact(sorted)
}

// Over makes a tree of a number and of the trees below it. The package that keeps trees balanced may turn them about; it
// has to, as Put and Drop call themselves all the way down a path, which must not be long.
type Over func(x int, left, right *Tree) *Tree

// Halved returns the tree of numbers that are in ascending order, in which the sizes of the trees below each number
// differ by at most 1.
func Halved(numbers []int, over Over) *Tree {
	if len(numbers) == 0 {
		return nil
	}
	half := len(numbers) / 2
	return over(numbers[half], Halved(numbers[:half], over), Halved(numbers[half+1:], over))
}

// Has reports whether x is in the tree.
func (t *Tree) Has(x int) bool {
	for t != nil && t.Key != x {
		if x < t.Key {
			t = t.Left
		} else {
			t = t.Right
		}
	}
	return t != nil
}

// Least returns the least number of a tree that has any.
func (t *Tree) Least() int {
	for t.Left != nil {
		t = t.Left
	}
	return t.Key
}

// Put returns the tree with x, which it does not have yet. Only what is above x is made anew.
func (t *Tree) Put(x int, over Over) *Tree {
	switch {
	case t == nil:
		return over(x, nil, nil)
	case x < t.Key:
		return over(t.Key, t.Left.Put(x, over), t.Right)
	default:
		return over(t.Key, t.Left, t.Right.Put(x, over))
	}
}

// Drop returns the tree without x, which it has. Only what is above x, or above the number that comes in its place, is
// made anew.
func (t *Tree) Drop(x int, over Over) *Tree {
	switch {
	case x < t.Key:
		return over(t.Key, t.Left.Drop(x, over), t.Right)
	case x > t.Key:
		return over(t.Key, t.Left, t.Right.Drop(x, over))
	case t.Left == nil:
		return t.Right
	case t.Right == nil:
		return t.Left
	}
	next := t.Right.Least()
	return over(next, t.Left, t.Right.Drop(next, over))
}

// Ints returns all numbers, in ascending order.
func (t *Tree) Ints() []int {
	var numbers []int
	t.Each(func(x int) {
		numbers = append(numbers, x)
	})
	return numbers
}

// Each calls f with every number, in ascending order.
func (t *Tree) Each(f func(x int)) {
	// A path may go through all numbers if a tree is not balanced, which is too deep for a call at each of them.
	var above []*Tree
	for t != nil || len(above) > 0 {
		for ; t != nil; t = t.Left {
			above = append(above, t)
		}
		last := len(above) - 1
		t, above = above[last], above[:last]
		f(t.Key)
		t = t.Right
	}
}

// Shape returns the nodes of the tree in preorder. The index of an empty tree is -1.
func (t *Tree) Shape() []api.Node {
	// waiting is a tree on the right, whose index is known only behind all nodes on the left.
	type waiting struct {
		tree  *Tree
		above int
	}
	var nodes []api.Node
	var right []waiting
	for t != nil || len(right) > 0 {
		if t == nil {
			last := len(right) - 1
			t = right[last].tree
			nodes[right[last].above].Right = len(nodes)
			right = right[:last]
		}
		node := api.Node{Key: t.Key, Left: -1, Right: -1, Mark: t.Mark}
		if t.Left != nil {
			node.Left = len(nodes) + 1
		}
		if t.Right != nil {
			right = append(right, waiting{tree: t.Right, above: len(nodes)})
		}
		nodes = append(nodes, node)
		t = t.Left
	}
	return nodes
}
