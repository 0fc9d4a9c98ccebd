package pair

import (
	"fmt"
	"runtime/debug"
	"slices"
	"testing"

	"wattlework/samples"
)

// checkTree fails the test unless the tree has the wanted numbers, which are in ascending order, and none is less than
// the one above it.
func checkTree(t *testing.T, h Heap, want []int) {
	t.Helper()
	numbers, is := ordered(h.root)
	slices.Sort(numbers)
	if !is || !slices.Equal(numbers, want) || !slices.Equal(h.Ints(), want) {
		t.Errorf("the tree has the numbers %v, ordered %v, Ints %v, want %v", numbers, is, h.Ints(), want)
	}
}

// ordered returns the numbers of a tree, and whether none of them is less than the one above it.
func ordered(a *tree) ([]int, bool) {
	if a == nil {
		return nil, true
	}
	numbers, is := []int{a.x}, true
	for r := a.below; r != nil; r = r.next {
		below, belowIs := ordered(r.tree)
		numbers, is = append(numbers, below...), is && belowIs && a.x <= r.tree.x
	}
	return numbers, is
}

// PA1: the trees of heaps that were joined, and of what pops leave of them.
func TestTrees(t *testing.T) {
	for n := range 41 {
		for m := range 41 {
			h := Of(samples.Many(n)).Join(Of(samples.Many(m)))
			want := slices.Concat(samples.Many(n), samples.Many(m))
			slices.Sort(want)
			checkTree(t, h, want)
			for i := range n {
				_, h, _ = h.Pop()
				checkTree(t, h, want[i+1:])
			}
		}
	}
}

// P1: a heap needs no more stack if all its numbers are on one path, or below one number.
func TestDeep(t *testing.T) {
	defer debug.SetMaxStack(debug.SetMaxStack(1 << 20))
	const n = 1 << 18
	var deep, wide Heap
	for i := range n {
		deep = deep.Push(n - 1 - i)
		wide = wide.Push(i)
	}
	down, across := 0, 0
	for r := (&row{tree: deep.root}); r != nil; r = r.tree.below {
		down++
	}
	for r := wide.root.below; r != nil; r = r.next {
		across++
	}
	if down != n || across != n-1 {
		t.Errorf("%d numbers on the path and %d below the first, want %d and %d", down, across, n, n-1)
	}
	if _, rest, has := wide.Pop(); !has || !slices.Equal(rest.Ints(), deep.Ints()[1:]) {
		t.Errorf("Pop leaves %d numbers %v, want %d true", rest.Len(), has, n-1)
	}
}

func ExampleHeap() {
	h := Of([]int{5, 3, 8, 3})
	x, rest, has := h.Pop()
	fmt.Println(x, rest.Ints(), has, h.Ints())
	// Output: 3 [3 5 8] true [3 3 5 8]
}

func ExampleHeap_Join() {
	fmt.Println(Of([]int{5, 3}).Join(Of([]int{3, 1})).Ints())
	// Output: [1 3 3 5]
}
