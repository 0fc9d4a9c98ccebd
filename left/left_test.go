package left

import (
	"fmt"
	"runtime/debug"
	"slices"
	"testing"

	"wattlework/samples"
)

// checkTree fails the test unless the tree is a leftist one of the wanted numbers, which are in ascending order, and
// Spine tells how long its path to the right is, which is within its bounds.
func checkTree(t *testing.T, h Heap, want []int) {
	t.Helper()
	numbers, path, is := leftist(h.root)
	slices.Sort(numbers)
	if !is || !slices.Equal(numbers, want) || !slices.Equal(h.Ints(), want) {
		t.Errorf("the tree has the numbers %v, leftist %v, Ints %v, want %v", numbers, is, h.Ints(), want)
	}
	if got, n := h.Spine(), h.Len(); got != path || 1<<got > n+1 || (got == 0) != (n == 0) {
		t.Errorf("Spine %d of %d numbers, the path to the right has %d", got, n, path)
	}
}

// leftist returns the numbers of a tree and the length of its path to the right, and whether it is a leftist one with
// no number less than the one above it.
func leftist(a *tree) ([]int, int, bool) {
	if a == nil {
		return nil, 0, true
	}
	left, leftPath, leftIs := leftist(a.left)
	right, rightPath, rightIs := leftist(a.right)
	below := slices.Concat(left, right)
	is := leftIs && rightIs && leftPath >= rightPath && a.spine == rightPath+1
	is = is && !slices.ContainsFunc(below, func(x int) bool { return x < a.x })
	return append(below, a.x), rightPath + 1, is
}

// LE2: the trees of heaps that were joined, and of what pops leave of them.
func TestTrees(t *testing.T) {
	for n := range 41 {
		for m := range 41 {
			h := Of(samples.Many(n)).Join(Of(samples.Many(m)))
			want := slices.Concat(samples.Many(n), samples.Many(m))
			slices.Sort(want)
			checkTree(t, h, want)
			for i := range n {
				_, h, _ = h.Pop()
				checkTree(t, h, want[i+1:])
			}
		}
	}
}

// LE2: the spine as a heap grows and as it shrinks, with numbers that rise, that fall, that are equal and others.
func TestSpine(t *testing.T) {
	const n = 260
	for _, number := range map[string]func(int) int{
		"rising":  func(i int) int { return i },
		"falling": func(i int) int { return -i },
		"equal":   func(i int) int { return 4 },
		"mixed":   func(i int) int { return i * 7919 % n },
	} {
		var h Heap
		for i := range n {
			checkTree(t, h, h.Ints())
			h = h.Push(number(i))
		}
		for range n {
			checkTree(t, h, h.Ints())
			_, h, _ = h.Pop()
		}
		checkTree(t, h, h.Ints())
	}
}

// LE2: the spine of heaps whose tree was worked out by hand.
func TestSpineByHand(t *testing.T) {
	falling := Heap{}.Push(9).Push(8).Push(7).Push(6)
	full := Of([]int{1, 2}).Push(3)
	for _, c := range []struct {
		h    Heap
		want int
	}{
		{Heap{}, 0},
		{Of(nil), 0},
		{Of([]int{4}), 1},
		{Of([]int{4, 5}), 1},
		{Of([]int{5, 4}), 1},
		{falling, 1}, // each number goes above all those before it
		{full, 2},    // 2 is on the left of 1, and 3 on the right
		{full.Push(0), 1},
		{Of([]int{-2, -1}).Join(full), 2},  // 1 goes to the left of -2, since its spine is the longer one
		{full.Join(Of([]int{4, 5, 6})), 2}, // on the right of 1, 3 comes above 4
	} {
		if got := c.h.Spine(); got != c.want {
			t.Errorf("Spine of %v: %d, want %d", c.h.Ints(), got, c.want)
		}
	}
}

// P1: nor does a heap with a path through most of its numbers, be it straight to the left or by turns.
func TestDeep(t *testing.T) {
	defer debug.SetMaxStack(debug.SetMaxStack(1 << 20))
	const n = 1 << 17
	straight, turning := Heap{}, Of([]int{3 * n})
	for i := n - 1; i >= 0; i-- {
		straight = straight.Push(3*i + 2).Push(3*i + 1).Push(3 * i)
		// What was there comes to the right of 3*i + 1, and that to the left of 3*i.
		turning = Of([]int{3*i + 1, 3*i + 2}).Join(turning).Push(3 * i)
	}
	lefts, turns := 0, 0
	for a := straight.root; a != nil; a = a.left {
		lefts++
	}
	for a := turning.root; a.left != nil; a = a.left.right {
		turns++
	}
	if lefts != 3*n || turns != n {
		t.Errorf("the paths have %d and %d numbers, want %d and %d", lefts, turns, 3*n, n)
	}
	for _, h := range []Heap{straight, turning} {
		numbers := h.Ints()
		for range h.Len() {
			x, rest, _ := h.Pop()
			if len(numbers) == 0 || x != numbers[0] || rest.Len() != len(numbers)-1 {
				t.Fatalf("Pop is %d, %d numbers, but Ints has %v", x, rest.Len(), numbers[:min(1, len(numbers))])
			}
			h, numbers = rest, numbers[1:]
		}
	}
}

func ExampleHeap() {
	h := Of([]int{5, 3, 8, 3})
	x, rest, has := h.Pop()
	fmt.Println(x, rest.Ints(), has, h.Ints())
	// Output: 3 [3 5 8] true [3 3 5 8]
}

func ExampleHeap_Join() {
	fmt.Println(Of([]int{5, 3}).Join(Of([]int{3, 1})).Ints())
	// Output: [1 3 3 5]
}

func ExampleHeap_Spine() {
	fmt.Println(Of([]int{1, 2}).Push(3).Spine())
	// Output: 2
}
