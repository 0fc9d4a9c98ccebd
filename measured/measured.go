// Package measured has finger trees of anything that is measured: sequences with both ends at hand, which are joined in
// few steps, and are split in few steps wherever the measure of what is before tells.
package measured

import (
	"iter"
)

// Monoid is a measure of elements. The order in which measures are joined counts, and how they are grouped does not.
type Monoid[M any] interface {
	// None returns the measure of no elements, whatever measure it is asked of.
	None() M
	// Join returns the measure of the elements that this one measures, with those that the other one measures behind them.
	Join(behind M) M
}

// Element is what a tree contains, and has a measure.
type Element[M any] interface {
	Measure() M
}

// Tree is a sequence of elements. Its zero value is empty.
type Tree[E Element[M], M Monoid[M]] struct {
	outer *level[E, M]
}

// Measure returns the measure of all elements.
func (t Tree[E, M]) Measure() M {
	return t.outer.total()
}

// All iterates over the elements, in order.
func (t Tree[E, M]) All() iter.Seq[E] {
	return func(yield func(E) bool) {
		t.outer.each(yield)
	}
}

// PushLeft returns the tree with x added at the front.
func (t Tree[E, M]) PushLeft(x E) Tree[E, M] {
	return Tree[E, M]{outer: t.outer.pushLeft(leaf(x))}
}

// PushRight returns the tree with x added at the end.
func (t Tree[E, M]) PushRight(x E) Tree[E, M] {
	return Tree[E, M]{outer: t.outer.pushRight(leaf(x))}
}

// PopLeft returns the first element and the tree of the others, or false if there is none.
func (t Tree[E, M]) PopLeft() (E, Tree[E, M], bool) {
	if t.outer == nil {
		var none E
		return none, Tree[E, M]{}, false
	}
	first, others := t.outer.popLeft()
	return first.element, Tree[E, M]{outer: others}, true
}

// PopRight returns the last element and the tree of the others, or false if there is none.
func (t Tree[E, M]) PopRight() (E, Tree[E, M], bool) {
	if t.outer == nil {
		var none E
		return none, Tree[E, M]{}, false
	}
	last, others := t.outer.popRight()
	return last.element, Tree[E, M]{outer: others}, true
}

// Join returns the tree of its elements, with those of the other tree behind them.
func (t Tree[E, M]) Join(behind Tree[E, M]) Tree[E, M] {
	return Tree[E, M]{outer: join(t.outer, nil, behind.outer)}
}

// Split returns the longest beginning for whose measure p is not true, and the tree of all other elements.
// Once p is true for a beginning, it has to be true for all longer ones. Otherwise, where the tree is split is open.
func (t Tree[E, M]) Split(p func(M) bool) (Tree[E, M], Tree[E, M]) {
	before := none[M]()
	switch {
	case t.outer == nil || p(before):
		return Tree[E, M]{}, t
	case !p(t.outer.measure):
		return t, Tree[E, M]{}
	}
	left, x, right := t.outer.split(p, before)
	return Tree[E, M]{outer: left}, Tree[E, M]{outer: right.pushLeft(x)}
}

// Digits returns how many nodes each level has on the left and on the right, from the outermost level on.
func (t Tree[E, M]) Digits() [][2]int {
	var digits [][2]int
	for l := t.outer; l != nil; l = l.inner {
		digits = append(digits, [2]int{len(l.left), len(l.right)})
	}
	return digits
}
