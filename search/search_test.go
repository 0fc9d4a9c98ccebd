package search

import (
	"fmt"
	"runtime/debug"
	"slices"
	"testing"

	"wattlework/api"
	"wattlework/samples"
)

// trees calls f with every tree of numbers that are in ascending order.
func trees(numbers []int, f func(*Tree)) {
	if len(numbers) == 0 {
		f(nil)
	}
	for i, x := range numbers {
		trees(numbers[:i], func(left *Tree) {
			trees(numbers[i+1:], func(right *Tree) {
				f(&Tree{Key: x, Mark: 3 * x, Left: left, Right: right})
			})
		})
	}
}

// nodes returns what Shape should, from one call to the next further down.
func nodes(t *Tree, before int) []api.Node {
	if t == nil {
		return nil
	}
	node := api.Node{Key: t.Key, Left: -1, Right: -1, Mark: t.Mark}
	left := nodes(t.Left, before+1)
	right := nodes(t.Right, before+1+len(left))
	if len(left) > 0 {
		node.Left = before + 1
	}
	if len(right) > 0 {
		node.Right = before + 1 + len(left)
	}
	return slices.Concat([]api.Node{node}, left, right)
}

// AV1, AV2, RB1, RB2, WB1, WB2, TP1, TP2, SP1, SP2: what is read from every tree of up to 6 numbers.
func TestTrees(t *testing.T) {
	all := []int{api.Least, -3, 0, 4, 5, api.Greatest}
	for n := range len(all) + 1 {
		numbers := all[:n]
		trees(numbers, func(tree *Tree) {
			if got := tree.Ints(); !slices.Equal(got, numbers) {
				t.Errorf("Ints %v, want %v", got, numbers)
			}
			if got, want := tree.Shape(), nodes(tree, 0); !slices.Equal(got, want) {
				t.Errorf("Shape %v, want %v", got, want)
			}
			if n > 0 && tree.Least() != numbers[0] {
				t.Errorf("Least %d of %v", tree.Least(), numbers)
			}
			for _, x := range all {
				for _, y := range []int{x - 1, x, x + 1} {
					if got := tree.Has(y); got != slices.Contains(numbers, y) {
						t.Errorf("Has %d is %v in %v", y, got, tree.Shape())
					}
				}
			}
		})
	}
}

// P1: a path through all numbers needs no more stack than a short one.
func TestDeep(t *testing.T) {
	defer debug.SetMaxStack(debug.SetMaxStack(1 << 20))
	const n = 1 << 18
	var left, right, zigzag *Tree
	for i := range n {
		left = &Tree{Key: i, Left: left}
		right = &Tree{Key: n - 1 - i, Right: right}
		// The further down, the nearer to the middle.
		if i%2 == 0 {
			zigzag = &Tree{Key: (n - 1 - i) / 2, Right: zigzag}
		} else {
			zigzag = &Tree{Key: (n + i) / 2, Left: zigzag}
		}
	}
	for name, tree := range map[string]*Tree{"left": left, "right": right, "zigzag": zigzag} {
		numbers := tree.Ints()
		if len(numbers) != n || !tree.Has(n/2) || tree.Has(n) || tree.Least() != 0 {
			t.Errorf("%s: %d numbers, Has %v %v, Least %d", name, len(numbers), tree.Has(n/2), tree.Has(n), tree.Least())
		}
		for i, x := range numbers {
			if x != i {
				t.Fatalf("%s: number %d is %d", name, i, x)
			}
		}
		for i, node := range tree.Shape() {
			if below := max(node.Left, node.Right); below != i+1 && i < n-1 {
				t.Fatalf("%s: node %d is above %d", name, i, below)
			}
		}
	}
}

// AV1, RB1, WB1, TP1, SP1, P2: the numbers of a list once each, and the list as it was.
func TestDistinct(t *testing.T) {
	for _, test := range []struct{ l, want []int }{
		{nil, nil},
		{[]int{4}, []int{4}},
		{[]int{4, 4, 4}, []int{4}},
		{[]int{4, 2, 4, -1, 2}, []int{-1, 2, 4}},
		{[]int{api.Greatest, 0, api.Least, api.Greatest}, []int{api.Least, 0, api.Greatest}},
	} {
		before := slices.Clone(test.l)
		got := Distinct(test.l)
		if !slices.Equal(got, test.want) {
			t.Errorf("Distinct %v is %v, want %v", before, got, test.want)
		}
		clear(got)
		if !slices.Equal(test.l, before) {
			t.Errorf("the argument is changed: %v, want %v", test.l, before)
		}
	}
}

// AV1, AV2, WB1, WB2, SP1, SP2: the numbers of a list, in a tree whose sides have nearly the same size everywhere.
func TestHalved(t *testing.T) {
	for n := range 70 {
		numbers := samples.Rising(n)
		tree := Halved(numbers, func(x int, left, right *Tree) *Tree {
			if one, two := len(left.Ints()), len(right.Ints()); one > two+1 || two > one+1 {
				t.Errorf("%d of %d numbers on the left of %d, and %d on the right", one, n, x, two)
			}
			return over(x, left, right)
		})
		if !slices.Equal(numbers, samples.Rising(n)) {
			t.Errorf("the argument is changed: %v", numbers)
		}
		clear(numbers)
		if got := tree.Ints(); !slices.Equal(got, samples.Rising(n)) {
			t.Errorf("Ints %v of %d numbers", got, n)
		}
	}
}

// over makes a tree without turning anything about.
func over(x int, left, right *Tree) *Tree {
	return &Tree{Key: x, Left: left, Right: right}
}

// AV1, WB1, P2: what is put into every tree of up to 5 numbers, and what is dropped, which leaves the tree as it was.
func TestPutDrop(t *testing.T) {
	all := []int{api.Least, -3, 0, 4, api.Greatest}
	for n := range len(all) + 1 {
		numbers := all[:n]
		trees(numbers, func(tree *Tree) {
			shape := tree.Shape()
			for _, x := range []int{api.Least, api.Least + 1, -3, -1, 0, 1, 4, 5, api.Greatest - 1, api.Greatest} {
				at, is := slices.BinarySearch(numbers, x)
				var got *Tree
				want := slices.Clone(numbers)
				if is {
					got, want = tree.Drop(x, over), slices.Delete(want, at, at+1)
				} else {
					got, want = tree.Put(x, over), slices.Insert(want, at, x)
				}
				if !slices.Equal(got.Ints(), want) {
					t.Errorf("%d leads from %v to %v", x, shape, got.Shape())
				}
				if !slices.Equal(tree.Shape(), shape) {
					t.Errorf("%v has become %v", shape, tree.Shape())
				}
			}
		})
	}
}

// P2: trees share all that is not above what is put, or dropped.
func TestSharing(t *testing.T) {
	tree := Halved(samples.Rising(1000), over)
	for _, x := range samples.Rising(1000) {
		made := 0
		count := func(x int, left, right *Tree) *Tree {
			made++
			return over(x, left, right)
		}
		tree.Drop(x, over).Put(x, count)
		tree.Drop(x, count)
		if made > 20 {
			t.Errorf("%d trees are made to drop %d and to put it", made, x)
		}
	}
}

func ExampleTree() {
	t := &Tree{Key: 5, Mark: 2, Left: &Tree{Key: 3, Mark: 1}}
	fmt.Println(t.Ints(), t.Has(3), t.Has(4), t.Shape())
	// Output: [3 5] true false [{5 1 -1 2} {3 -1 -1 1}]
}
