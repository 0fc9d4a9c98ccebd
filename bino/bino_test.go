package bino

import (
	"fmt"
	"runtime/debug"
	"slices"
	"testing"

	"wattlework/api"
)

// samples are the numbers of heaps of several sizes, with the edges of ints among them.
func samples() [][]int {
	return [][]int{
		nil,
		{},
		{7},
		{0},
		{0, 0},
		{3, 5},
		{5, 3},
		{5, 3, 8, 3},
		{-4, -4, 2, -4, -4},
		{api.Greatest, api.Least, 0, -1, 1},
		{api.Least, api.Least, api.Greatest, api.Greatest},
		{1, 2, 3, 4, 5, 6, 7, 8},
		{9, 8, 7, 6, 5, 4, 3, 2, 1},
		many(31),
		many(32),
		many(33),
		many(100),
	}
}

// many returns n numbers, some of which come more than once.
func many(n int) []int {
	var l []int
	for i := range n {
		l = append(l, i*i*7919%61-30)
	}
	return l
}

// sorted returns the numbers of all the lists, in ascending order.
func sorted(lists ...[]int) []int {
	all := slices.Concat(lists...)
	slices.Sort(all)
	return all
}

// ones returns the places of the ones of n in binary, from the least.
func ones(n int) []int {
	var places []int
	for place := 0; n > 0; place++ {
		if n%2 == 1 {
			places = append(places, place)
		}
		n /= 2
	}
	return places
}

// check fails the test unless everything that reads a heap finds the wanted numbers in it, and Pop in turn.
func check(t *testing.T, name string, h Heap, numbers []int) {
	t.Helper()
	want := sorted(numbers)
	checkHere(t, name, h, want)
	for i, w := range want {
		x, rest, has := h.Pop()
		if x != w || !has {
			t.Errorf("%s: Pop %d is %d %v, want %d true", name, i, x, has, w)
		}
		checkHere(t, name, rest, want[i+1:])
		h = rest
	}
	checkNone(t, name, h)
}

// checkHere is check without popping.
func checkHere(t *testing.T, name string, h Heap, numbers []int) {
	t.Helper()
	want := sorted(numbers)
	if got := h.Ints(); !slices.Equal(got, want) {
		t.Errorf("%s: Ints %v, want %v", name, got, want)
	}
	if got := h.Len(); got != len(want) {
		t.Errorf("%s: Len %d, want %d", name, got, len(want))
	}
	least := 0
	if len(want) > 0 {
		least = want[0]
	}
	if got, has := h.Min(); got != least || has != (len(want) > 0) {
		t.Errorf("%s: Min is %d %v of %v", name, got, has, want)
	}
	checkTrees(t, name, h, want)
}

// checkTrees fails the test unless the trees are binomial trees of the wanted numbers, and Ranks tells of them.
func checkTrees(t *testing.T, name string, h Heap, want []int) {
	t.Helper()
	// Only one set of different powers of 2 has a given sum.
	ranks := ones(len(want))
	if got := h.Ranks(); !slices.Equal(got, ranks) {
		t.Fatalf("%s: Ranks %v of %d numbers, want %v", name, got, len(want), ranks)
	}
	var all []int
	r := h.first
	for _, rank := range ranks {
		numbers, is := binomial(r.tree, rank)
		if !is || len(numbers) != 1<<rank {
			t.Errorf("%s: a tree of rank %d has the numbers %v, binomial %v", name, rank, numbers, is)
		}
		all = append(all, numbers...)
		r = r.next
	}
	if r != nil || !slices.Equal(sorted(all), want) {
		t.Errorf("%s: the trees have the numbers %v, want %v", name, sorted(all), want)
	}
}

// binomial returns the numbers of a tree, and whether it is a binomial one of that rank with no number less than the
// one above it.
func binomial(a *tree, rank int) ([]int, bool) {
	numbers, is := []int{a.x}, a.rank == rank
	r := a.below
	for k := rank - 1; k >= 0; k-- {
		if r == nil {
			return numbers, false
		}
		below, belowIs := binomial(r.tree, k)
		numbers = append(numbers, below...)
		is = is && belowIs && a.x <= r.tree.x
		r = r.next
	}
	return numbers, is && r == nil
}

// checkNone fails the test unless Min and Pop report that the heap is empty, and Pop gives an empty one with that.
func checkNone(t *testing.T, name string, h Heap) {
	t.Helper()
	if x, has := h.Min(); x != 0 || has {
		t.Errorf("%s: Min of an empty heap is %d %v, want 0 false", name, x, has)
	}
	x, rest, has := h.Pop()
	if x != 0 || has {
		t.Errorf("%s: Pop of an empty heap is %d %v, want 0 false", name, x, has)
	}
	checkHere(t, name, rest, nil)
}

// ways returns heaps of the same numbers that came about in several ways.
func ways(numbers []int) map[string]Heap {
	pushed := Heap{}
	for _, x := range slices.Backward(numbers) {
		pushed = pushed.Push(x)
	}
	popped := Of(numbers).Push(api.Least).Push(api.Least).Push(api.Least)
	for range 3 {
		_, popped, _ = popped.Pop()
	}
	joined := Heap{}
	for _, x := range numbers {
		joined = Of([]int{x}).Join(joined)
	}
	half := len(numbers) / 2
	return map[string]Heap{
		"Of":     Of(numbers),
		"Push":   pushed,
		"Pop":    popped,
		"Join":   joined,
		"halves": Of(numbers[:half]).Join(Of(numbers[half:])),
	}
}

// BI1, BI2: the numbers of a heap, and its trees, however it came about.
func TestNumbers(t *testing.T) {
	for _, numbers := range samples() {
		for way, h := range ways(numbers) {
			check(t, fmt.Sprint(way, numbers), h, numbers)
		}
	}
}

// BI1: the zero value is an empty heap like any other.
func TestZeroValue(t *testing.T) {
	var h Heap
	check(t, "zero", h, nil)
	check(t, "pushed", h.Push(4), []int{4})
	check(t, "joined", h.Join(Of([]int{4, 2})), []int{2, 4})
	check(t, "joined to", Of([]int{4, 2}).Join(h), []int{2, 4})
	check(t, "joined with itself", h.Join(h), nil)
}

// BI1: a heap that has been emptied, and what comes with false, are empty heaps like any other.
func TestEmptied(t *testing.T) {
	for _, numbers := range samples() {
		h := Of(numbers)
		for range numbers {
			_, h, _ = h.Pop()
		}
		_, none, _ := h.Pop()
		for name, empty := range map[string]Heap{"emptied": h, "none": none} {
			check(t, name, empty, nil)
			check(t, name+" and filled", empty.Push(7).Push(2).Push(6), []int{2, 6, 7})
			check(t, name+" and joined", empty.Join(Of(numbers)), numbers)
		}
	}
}

// BI1: Pop takes one occurrence of the smallest number, and leaves the others.
func TestPopOne(t *testing.T) {
	h := Of([]int{3, 3, 5, 3, 8})
	for _, want := range [][]int{{3, 3, 5, 8}, {3, 5, 8}, {5, 8}} {
		x, rest, has := h.Pop()
		if x != 3 || !has {
			t.Errorf("Pop is %d %v, want 3 true", x, has)
		}
		check(t, "rest", rest, want)
		h = rest
	}
}

// BI1: a 0 as the smallest number is not taken for the end.
func TestZeroNumber(t *testing.T) {
	for _, numbers := range [][]int{{0}, {0, 4}, {5, 0, 4}} {
		h := Of(numbers)
		if x, has := h.Min(); x != 0 || !has {
			t.Errorf("Min of %v is %d %v, want 0 true", numbers, x, has)
		}
		if x, rest, has := h.Pop(); x != 0 || !has || rest.Len() != len(numbers)-1 {
			t.Errorf("Pop of %v is %d, %d numbers, %v, want 0 true", numbers, x, rest.Len(), has)
		}
	}
}

// BI1: the order in which numbers come does not matter.
func TestOrders(t *testing.T) {
	numbers := []int{1, 2, 2, 3, 4, 5}
	var walk func(k int)
	walk = func(k int) {
		if k == len(numbers) {
			check(t, fmt.Sprint(numbers), Of(numbers), numbers)
		}
		for i := k; i < len(numbers); i++ {
			numbers[k], numbers[i] = numbers[i], numbers[k]
			walk(k + 1)
			numbers[k], numbers[i] = numbers[i], numbers[k]
		}
	}
	walk(0)
}

// BI1, BI2: Join adds the multiplicities, for all sizes of both heaps up to 40.
func TestJoin(t *testing.T) {
	for n := range 41 {
		for m := range 41 {
			a, b := many(n), many(m)
			h, other := Of(a), Of(b)
			checkHere(t, fmt.Sprintf("%d and %d", n, m), h.Join(other), slices.Concat(a, b))
			checkHere(t, "one", h, a)
			checkHere(t, "other", other, b)
		}
	}
	for _, a := range samples() {
		for _, b := range samples() {
			check(t, fmt.Sprint(a, b), Of(a).Join(Of(b)), slices.Concat(a, b))
		}
	}
}

// BI1: a heap joined with itself, or with one that it was made from, has the numbers of both.
func TestJoinItself(t *testing.T) {
	for _, numbers := range samples() {
		h := Of(numbers)
		check(t, "twice", h.Join(h), slices.Concat(numbers, numbers))
		four := h.Join(h).Join(h.Join(h))
		check(t, "four times", four, slices.Concat(numbers, numbers, numbers, numbers))
		_, rest, _ := h.Pop()
		check(t, "with the rest", h.Join(rest), slices.Concat(numbers, sorted(numbers)[min(1, len(numbers)):]))
		check(t, "with more", h.Join(h.Push(2)), slices.Concat(numbers, numbers, []int{2}))
		check(t, "the heap", h, numbers)
	}
}

// BI1, BI2: a heap joined with itself again and again, up to the greatest size of P5, has its trees and numbers.
func TestDoubled(t *testing.T) {
	const doublings = 30
	h := Of([]int{4})
	for range doublings {
		h = h.Join(h)
	}
	if got := h.Ranks(); h.Len() != 1<<doublings || !slices.Equal(got, []int{doublings}) {
		t.Errorf("%d numbers, Ranks %v", h.Len(), got)
	}
	h = h.Push(5).Push(3)
	for i, want := range []int{3, 4, 4} {
		x, rest, has := h.Pop()
		n := 1<<doublings + 1 - i
		if x != want || !has || rest.Len() != n || !slices.Equal(rest.Ranks(), ones(n)) {
			t.Errorf("Pop %d is %d %v, %d numbers, Ranks %v, want %d", i, x, has, rest.Len(), rest.Ranks(), want)
		}
		h = rest
	}
}

// BI1, BI2: however pushes, pops and joins alternate, and whatever was made of a heap before.
func TestAllWays(t *testing.T) {
	const depth = 6
	var walk func(h Heap, want []int, steps int)
	walk = func(h Heap, want []int, steps int) {
		checkHere(t, "before", h, want)
		if steps == depth {
			check(t, "last", h, want)
			return
		}
		for _, x := range []int{-steps, 0, steps} {
			walk(h.Push(x), slices.Concat(want, []int{x}), steps+1)
		}
		if len(want) > 0 {
			_, rest, _ := h.Pop()
			walk(rest, sorted(want)[1:], steps+1)
		} else {
			checkNone(t, "empty", h)
		}
		walk(h.Join(Of([]int{2, -1, 1})), slices.Concat(want, []int{2, -1, 1}), steps+1)
		if steps < 3 {
			walk(h.Join(h), slices.Concat(want, want), steps+1)
		}
		checkHere(t, "behind", h, want)
	}
	walk(Heap{}, nil, 0)
}

// BI2: the ranks as a heap grows and as it shrinks.
func TestRanks(t *testing.T) {
	const n = 1100
	var h Heap
	same := func() {
		if got, want := h.Ranks(), ones(h.Len()); !slices.Equal(got, want) {
			t.Errorf("Ranks of %d numbers: %v, want %v", h.Len(), got, want)
		}
	}
	for i := range n {
		same()
		h = h.Push(i * 7919 % n)
	}
	for range n {
		same()
		_, h, _ = h.Pop()
	}
	same()
}

// BI2: the ranks of some heaps, worked out by hand.
func TestRanksByHand(t *testing.T) {
	for n, want := range [][]int{{}, {0}, {1}, {0, 1}, {2}, {0, 2}, {1, 2}, {0, 1, 2}, {3}, {0, 3}, {1, 3}} {
		if got := Of(make([]int, n)).Ranks(); !slices.Equal(got, want) {
			t.Errorf("Ranks of %d numbers: %v, want %v", n, got, want)
		}
	}
}

// P2: Of neither changes nor keeps its argument, nor the memory behind its length.
func TestOfKeepsArgument(t *testing.T) {
	whole := []int{4, -9, 2, 6, 77, 78}
	before := slices.Clone(whole)
	h := Of(whole[:4])
	check(t, "pushed", h.Push(1), []int{4, -9, 2, 6, 1})
	if !slices.Equal(whole, before) {
		t.Errorf("the argument is changed: %v", whole)
	}
	clear(whole)
	check(t, "the argument cleared", h, []int{4, -9, 2, 6})
}

// P2: each call of Ints and of Ranks returns memory of its own, and the heap keeps none of it.
func TestResultsAreNew(t *testing.T) {
	for _, numbers := range samples() {
		h := Of(numbers)
		for _, call := range []func() []int{h.Ints, h.Ranks} {
			a, b := call(), call()
			before := slices.Clone(b)
			clear(a[:cap(a)])
			_ = append(a[:0], 70, 71, 72)
			if !slices.Equal(b, before) {
				t.Errorf("the other result is changed: %v, want %v", b, before)
			}
		}
		check(t, "the heap", h, numbers)
	}
}

// P2: no method changes its receiver or its argument; two heaps that were made from one do not meet.
func TestPersistence(t *testing.T) {
	for _, numbers := range samples() {
		h, fixed := Of(numbers), Of([]int{6, 1, 4})
		_, rest, _ := h.Pop()
		one, two := h.Push(-1), h.Push(2)
		joined, turned := one.Join(fixed), fixed.Join(two)
		joined.Push(5)
		turned.Pop()
		rest.Push(-6)
		rest.Join(one)
		check(t, "h", h, numbers)
		check(t, "fixed", fixed, []int{1, 4, 6})
		check(t, "rest", rest, sorted(numbers)[min(1, len(numbers)):])
		check(t, "one", one, slices.Concat(numbers, []int{-1}))
		check(t, "two", two, slices.Concat(numbers, []int{2}))
		check(t, "joined", joined, slices.Concat(numbers, []int{-1, 6, 1, 4}))
		check(t, "turned", turned, slices.Concat(numbers, []int{2, 6, 1, 4}))
	}
}

// P1: a large heap needs no more stack than a small one, and no pass over it at every step.
func TestLarge(t *testing.T) {
	defer debug.SetMaxStack(debug.SetMaxStack(1 << 20))
	const n = 1 << 19
	var h, evens, odds Heap
	for i := range n {
		// As 7919 and n have no common divisor, every number comes once.
		x := i * 7919 % n
		h = h.Push(x)
		if x%2 == 0 {
			evens = evens.Push(x)
		} else {
			odds = odds.Push(x)
		}
		if _, has := h.Min(); !has || h.Len() != i+1 {
			t.Fatalf("%d numbers, want %d", h.Len(), i+1)
		}
	}
	joined := evens.Join(odds)
	for i := range n {
		x, rest, has := h.Pop()
		y, otherRest, also := joined.Pop()
		if x != i || y != i || !has || !also {
			t.Fatalf("Pop is %d %v and %d %v, want %d", x, has, y, also, i)
		}
		h, joined = rest, otherRest
	}
	checkNone(t, "emptied", h)
	checkNone(t, "joined and emptied", joined)
}

func ExampleHeap() {
	h := Of([]int{5, 3, 8, 3})
	x, rest, has := h.Pop()
	fmt.Println(x, rest.Ints(), has, h.Ints())
	// Output: 3 [3 5 8] true [3 3 5 8]
}

func ExampleHeap_Join() {
	fmt.Println(Of([]int{5, 3}).Join(Of([]int{3, 1})).Ints())
	// Output: [1 3 3 5]
}

func ExampleHeap_Ranks() {
	fmt.Println(Of([]int{1, 2, 3, 4, 5}).Ranks())
	// Output: [0 2]
}
