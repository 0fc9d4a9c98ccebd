package bino

import (
	"fmt"
	"slices"
	"testing"

	"wattlework/samples"
)

// ones returns the places of the ones of n in binary, from the least.
func ones(n int) []int {
	var places []int
	for place := 0; n > 0; place++ {
		if n%2 == 1 {
			places = append(places, place)
		}
		n /= 2
	}
	return places
}

// checkTrees fails the test unless the trees are binomial ones of the wanted numbers, which are in ascending order.
func checkTrees(t *testing.T, h Heap, want []int) {
	t.Helper()
	// Only one set of different powers of 2 has a given sum.
	ranks := ones(len(want))
	if got := h.Ranks(); !slices.Equal(got, ranks) {
		t.Fatalf("Ranks %v of %d numbers, want %v", got, len(want), ranks)
	}
	var all []int
	r := h.first
	for _, rank := range ranks {
		numbers, is := binomial(r.tree, rank)
		if !is || len(numbers) != 1<<rank {
			t.Errorf("a tree of rank %d has the numbers %v, binomial %v", rank, numbers, is)
		}
		all = append(all, numbers...)
		r = r.next
	}
	slices.Sort(all)
	if r != nil || !slices.Equal(all, want) || !slices.Equal(h.Ints(), want) {
		t.Errorf("the trees have the numbers %v, Ints %v, want %v", all, h.Ints(), want)
	}
}

// binomial returns the numbers of a tree, and whether it is a binomial one of that rank with no number less than the
// one above it.
func binomial(a *tree, rank int) ([]int, bool) {
	numbers, is := []int{a.x}, a.rank == rank
	r := a.below
	for k := rank - 1; k >= 0; k-- {
		if r == nil {
			return numbers, false
		}
		below, belowIs := binomial(r.tree, k)
		numbers = append(numbers, below...)
		is = is && belowIs && a.x <= r.tree.x
		r = r.next
	}
	return numbers, is && r == nil
}

// BI2: the trees of heaps that were joined, and of what pops leave of them.
func TestTrees(t *testing.T) {
	for n := range 41 {
		for m := range 41 {
			h := Of(samples.Many(n)).Join(Of(samples.Many(m)))
			want := slices.Concat(samples.Many(n), samples.Many(m))
			slices.Sort(want)
			checkTrees(t, h, want)
			for i := range n {
				_, h, _ = h.Pop()
				checkTrees(t, h, want[i+1:])
			}
		}
	}
}

// BI2: the ranks as a heap grows and as it shrinks.
func TestRanks(t *testing.T) {
	const n = 1100
	var h Heap
	same := func() {
		if got, want := h.Ranks(), ones(h.Len()); !slices.Equal(got, want) {
			t.Errorf("Ranks of %d numbers: %v, want %v", h.Len(), got, want)
		}
	}
	for i := range n {
		same()
		h = h.Push(i * 7919 % n)
	}
	for range n {
		same()
		_, h, _ = h.Pop()
	}
	same()
}

// BI2: the ranks of some heaps, worked out by hand.
func TestRanksByHand(t *testing.T) {
	for n, want := range [][]int{{}, {0}, {1}, {0, 1}, {2}, {0, 2}, {1, 2}, {0, 1, 2}, {3}, {0, 3}, {1, 3}} {
		if got := Of(make([]int, n)).Ranks(); !slices.Equal(got, want) {
			t.Errorf("Ranks of %d numbers: %v, want %v", n, got, want)
		}
	}
}

// P2: each call of Ranks returns memory of its own, and the heap keeps none of it.
func TestRanksAreNew(t *testing.T) {
	h := Of(samples.Many(11))
	a, b := h.Ranks(), h.Ranks()
	clear(a[:cap(a)])
	_ = append(a[:0], 70, 71, 72)
	if want := []int{0, 1, 3}; !slices.Equal(b, want) || !slices.Equal(h.Ranks(), want) {
		t.Errorf("the other results are changed: %v and %v, want %v", b, h.Ranks(), want)
	}
}

func ExampleHeap() {
	h := Of([]int{5, 3, 8, 3})
	x, rest, has := h.Pop()
	fmt.Println(x, rest.Ints(), has, h.Ints())
	// Output: 3 [3 5 8] true [3 3 5 8]
}

func ExampleHeap_Join() {
	fmt.Println(Of([]int{5, 3}).Join(Of([]int{3, 1})).Ints())
	// Output: [1 3 3 5]
}

func ExampleHeap_Ranks() {
	fmt.Println(Of([]int{1, 2, 3, 4, 5}).Ranks())
	// Output: [0 2]
}
