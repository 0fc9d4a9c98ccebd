package search

import (
	"fmt"
	"runtime/debug"
	"slices"
	"testing"

	"wattlework/api"
)

// trees calls f with every tree of numbers that are in ascending order.
func trees(numbers []int, f func(*Tree)) {
	if len(numbers) == 0 {
		f(nil)
	}
	for i, x := range numbers {
		trees(numbers[:i], func(left *Tree) {
			trees(numbers[i+1:], func(right *Tree) {
				f(&Tree{Key: x, Mark: 3 * x, Left: left, Right: right})
			})
		})
	}
}

// nodes returns what Shape should, from one call to the next further down.
func nodes(t *Tree, before int) []api.Node {
	if t == nil {
		return nil
	}
	node := api.Node{Key: t.Key, Left: -1, Right: -1, Mark: t.Mark}
	left := nodes(t.Left, before+1)
	right := nodes(t.Right, before+1+len(left))
	if len(left) > 0 {
		node.Left = before + 1
	}
	if len(right) > 0 {
		node.Right = before + 1 + len(left)
	}
	return slices.Concat([]api.Node{node}, left, right)
}

// AV1, AV2, RB1, RB2: what is read from every tree of up to 6 numbers.
func TestTrees(t *testing.T) {
	all := []int{api.Least, -3, 0, 4, 5, api.Greatest}
	for n := range len(all) + 1 {
		numbers := all[:n]
		trees(numbers, func(tree *Tree) {
			if got := tree.Ints(); !slices.Equal(got, numbers) {
				t.Errorf("Ints %v, want %v", got, numbers)
			}
			if got, want := tree.Shape(), nodes(tree, 0); !slices.Equal(got, want) {
				t.Errorf("Shape %v, want %v", got, want)
			}
			if n > 0 && tree.Least() != numbers[0] {
				t.Errorf("Least %d of %v", tree.Least(), numbers)
			}
			for _, x := range all {
				for _, y := range []int{x - 1, x, x + 1} {
					if got := tree.Has(y); got != slices.Contains(numbers, y) {
						t.Errorf("Has %d is %v in %v", y, got, tree.Shape())
					}
				}
			}
		})
	}
}

// P1: a path through all numbers needs no more stack than a short one.
func TestDeep(t *testing.T) {
	defer debug.SetMaxStack(debug.SetMaxStack(1 << 20))
	const n = 1 << 18
	var left, right, zigzag *Tree
	for i := range n {
		left = &Tree{Key: i, Left: left}
		right = &Tree{Key: n - 1 - i, Right: right}
		// The further down, the nearer to the middle.
		if i%2 == 0 {
			zigzag = &Tree{Key: (n - 1 - i) / 2, Right: zigzag}
		} else {
			zigzag = &Tree{Key: (n + i) / 2, Left: zigzag}
		}
	}
	for name, tree := range map[string]*Tree{"left": left, "right": right, "zigzag": zigzag} {
		numbers := tree.Ints()
		if len(numbers) != n || !tree.Has(n/2) || tree.Has(n) || tree.Least() != 0 {
			t.Errorf("%s: %d numbers, Has %v %v, Least %d", name, len(numbers), tree.Has(n/2), tree.Has(n), tree.Least())
		}
		for i, x := range numbers {
			if x != i {
				t.Fatalf("%s: number %d is %d", name, i, x)
			}
		}
		for i, node := range tree.Shape() {
			if below := max(node.Left, node.Right); below != i+1 && i < n-1 {
				t.Fatalf("%s: node %d is above %d", name, i, below)
			}
		}
	}
}

// AV1, RB1, P2: the numbers of a list once each, and the list as it was.
func TestDistinct(t *testing.T) {
	for _, test := range []struct{ l, want []int }{
		{nil, nil},
		{[]int{4}, []int{4}},
		{[]int{4, 4, 4}, []int{4}},
		{[]int{4, 2, 4, -1, 2}, []int{-1, 2, 4}},
		{[]int{api.Greatest, 0, api.Least, api.Greatest}, []int{api.Least, 0, api.Greatest}},
	} {
		before := slices.Clone(test.l)
		got := Distinct(test.l)
		if !slices.Equal(got, test.want) {
			t.Errorf("Distinct %v is %v, want %v", before, got, test.want)
		}
		clear(got)
		if !slices.Equal(test.l, before) {
			t.Errorf("the argument is changed: %v, want %v", test.l, before)
		}
	}
}

func ExampleTree() {
	t := &Tree{Key: 5, Mark: 2, Left: &Tree{Key: 3, Mark: 1}}
	fmt.Println(t.Ints(), t.Has(3), t.Has(4), t.Shape())
	// Output: [3 5] true false [{5 1 -1 2} {3 -1 -1 1}]
}
