package pair

import (
	"fmt"
	"runtime/debug"
	"slices"
	"testing"

	"wattlework/api"
)

// samples are the numbers of heaps of several sizes, with the edges of ints among them.
func samples() [][]int {
	return [][]int{
		nil,
		{},
		{7},
		{0},
		{0, 0},
		{3, 5},
		{5, 3},
		{5, 3, 8, 3},
		{-4, -4, 2, -4, -4},
		{api.Greatest, api.Least, 0, -1, 1},
		{api.Least, api.Least, api.Greatest, api.Greatest},
		{1, 2, 3, 4, 5, 6, 7, 8},
		{9, 8, 7, 6, 5, 4, 3, 2, 1},
		many(31),
		many(32),
		many(33),
		many(100),
	}
}

// many returns n numbers, some of which come more than once.
func many(n int) []int {
	var l []int
	for i := range n {
		l = append(l, i*i*7919%61-30)
	}
	return l
}

// sorted returns the numbers of all the lists, in ascending order.
func sorted(lists ...[]int) []int {
	all := slices.Concat(lists...)
	slices.Sort(all)
	return all
}

// check fails the test unless everything that reads a heap finds the wanted numbers in it, and Pop in turn.
func check(t *testing.T, name string, h Heap, numbers []int) {
	t.Helper()
	want := sorted(numbers)
	checkHere(t, name, h, want)
	for i, w := range want {
		x, rest, has := h.Pop()
		if x != w || !has {
			t.Errorf("%s: Pop %d is %d %v, want %d true", name, i, x, has, w)
		}
		checkHere(t, name, rest, want[i+1:])
		h = rest
	}
	checkNone(t, name, h)
}

// checkHere is check without popping.
func checkHere(t *testing.T, name string, h Heap, numbers []int) {
	t.Helper()
	want := sorted(numbers)
	if got := h.Ints(); !slices.Equal(got, want) {
		t.Errorf("%s: Ints %v, want %v", name, got, want)
	}
	if got := h.Len(); got != len(want) {
		t.Errorf("%s: Len %d, want %d", name, got, len(want))
	}
	least := 0
	if len(want) > 0 {
		least = want[0]
	}
	if got, has := h.Min(); got != least || has != (len(want) > 0) {
		t.Errorf("%s: Min is %d %v of %v", name, got, has, want)
	}
	numbers, is := ordered(h.root)
	if got := sorted(numbers); !is || !slices.Equal(got, want) {
		t.Errorf("%s: the tree is ordered %v and has the numbers %v, want %v", name, is, got, want)
	}
}

// ordered returns the numbers of a tree, and whether none of them is less than the one above it.
func ordered(a *tree) ([]int, bool) {
	if a == nil {
		return nil, true
	}
	numbers, is := []int{a.x}, true
	for r := a.below; r != nil; r = r.next {
		below, belowIs := ordered(r.tree)
		numbers, is = append(numbers, below...), is && belowIs && a.x <= r.tree.x
	}
	return numbers, is
}

// checkNone fails the test unless Min and Pop report that the heap is empty, and Pop gives an empty one with that.
func checkNone(t *testing.T, name string, h Heap) {
	t.Helper()
	if x, has := h.Min(); x != 0 || has {
		t.Errorf("%s: Min of an empty heap is %d %v, want 0 false", name, x, has)
	}
	x, rest, has := h.Pop()
	if x != 0 || has {
		t.Errorf("%s: Pop of an empty heap is %d %v, want 0 false", name, x, has)
	}
	checkHere(t, name, rest, nil)
}

// ways returns heaps of the same numbers that came about in several ways.
func ways(numbers []int) map[string]Heap {
	pushed := Heap{}
	for _, x := range slices.Backward(numbers) {
		pushed = pushed.Push(x)
	}
	popped := Of(numbers).Push(api.Least).Push(api.Least).Push(api.Least)
	for range 3 {
		_, popped, _ = popped.Pop()
	}
	joined := Heap{}
	for _, x := range numbers {
		joined = Of([]int{x}).Join(joined)
	}
	third := len(numbers) / 3
	return map[string]Heap{
		"Of":    Of(numbers),
		"Push":  pushed,
		"Pop":   popped,
		"Join":  joined,
		"parts": Of(numbers[:third]).Join(Of(numbers[third:])),
	}
}

// PA1: the numbers of a heap, and its tree, however it came about.
func TestNumbers(t *testing.T) {
	for _, numbers := range samples() {
		for way, h := range ways(numbers) {
			check(t, fmt.Sprint(way, numbers), h, numbers)
		}
	}
}

// PA1: the zero value is an empty heap like any other.
func TestZeroValue(t *testing.T) {
	var h Heap
	check(t, "zero", h, nil)
	check(t, "pushed", h.Push(4), []int{4})
	check(t, "joined", h.Join(Of([]int{4, 2})), []int{2, 4})
	check(t, "joined to", Of([]int{4, 2}).Join(h), []int{2, 4})
	check(t, "joined with itself", h.Join(h), nil)
}

// PA1: a heap that has been emptied, and what comes with false, are empty heaps like any other.
func TestEmptied(t *testing.T) {
	for _, numbers := range samples() {
		h := Of(numbers)
		for range numbers {
			_, h, _ = h.Pop()
		}
		_, none, _ := h.Pop()
		for name, empty := range map[string]Heap{"emptied": h, "none": none} {
			check(t, name, empty, nil)
			check(t, name+" and filled", empty.Push(7).Push(2).Push(6), []int{2, 6, 7})
			check(t, name+" and joined", empty.Join(Of(numbers)), numbers)
		}
	}
}

// PA1: Pop takes one occurrence of the smallest number, and leaves the others.
func TestPopOne(t *testing.T) {
	h := Of([]int{3, 3, 5, 3, 8})
	for _, want := range [][]int{{3, 3, 5, 8}, {3, 5, 8}, {5, 8}} {
		x, rest, has := h.Pop()
		if x != 3 || !has {
			t.Errorf("Pop is %d %v, want 3 true", x, has)
		}
		check(t, "rest", rest, want)
		h = rest
	}
}

// PA1: a 0 as the smallest number is not taken for the end.
func TestZeroNumber(t *testing.T) {
	for _, numbers := range [][]int{{0}, {0, 4}, {5, 0, 4}} {
		h := Of(numbers)
		if x, has := h.Min(); x != 0 || !has {
			t.Errorf("Min of %v is %d %v, want 0 true", numbers, x, has)
		}
		if x, rest, has := h.Pop(); x != 0 || !has || rest.Len() != len(numbers)-1 {
			t.Errorf("Pop of %v is %d, %d numbers, %v, want 0 true", numbers, x, rest.Len(), has)
		}
	}
}

// PA1: the order in which numbers come does not matter.
func TestOrders(t *testing.T) {
	numbers := []int{1, 2, 2, 3, 4, 5}
	var walk func(k int)
	walk = func(k int) {
		if k == len(numbers) {
			for way, h := range ways(numbers) {
				check(t, fmt.Sprint(way, numbers), h, numbers)
			}
		}
		for i := k; i < len(numbers); i++ {
			numbers[k], numbers[i] = numbers[i], numbers[k]
			walk(k + 1)
			numbers[k], numbers[i] = numbers[i], numbers[k]
		}
	}
	walk(0)
}

// PA1: Join adds the multiplicities, for all sizes of both heaps up to 40.
func TestJoin(t *testing.T) {
	for n := range 41 {
		for m := range 41 {
			a, b := many(n), many(m)
			h, other := Of(a), Of(b)
			checkHere(t, fmt.Sprintf("%d and %d", n, m), h.Join(other), slices.Concat(a, b))
			checkHere(t, "one", h, a)
			checkHere(t, "other", other, b)
		}
	}
	for _, a := range samples() {
		for _, b := range samples() {
			check(t, fmt.Sprint(a, b), Of(a).Join(Of(b)), slices.Concat(a, b))
		}
	}
}

// PA1: a heap joined with itself, or with one that it was made from, has the numbers of both.
func TestJoinItself(t *testing.T) {
	for _, numbers := range samples() {
		h := Of(numbers)
		check(t, "twice", h.Join(h), slices.Concat(numbers, numbers))
		four := h.Join(h).Join(h.Join(h))
		check(t, "four times", four, slices.Concat(numbers, numbers, numbers, numbers))
		_, rest, _ := h.Pop()
		check(t, "with the rest", h.Join(rest), slices.Concat(numbers, sorted(numbers)[min(1, len(numbers)):]))
		check(t, "with more", h.Join(h.Push(2)), slices.Concat(numbers, numbers, []int{2}))
		check(t, "the heap", h, numbers)
	}
}

// PA1: a heap joined with itself again and again, up to the greatest size of P5, has all its numbers.
func TestDoubled(t *testing.T) {
	const doublings = 30
	for _, numbers := range [][]int{{4}, {4, 5}} {
		h, n := Of(numbers), len(numbers)
		for n < 1<<doublings {
			h, n = h.Join(h), 2*n
		}
		h = h.Push(5).Push(3)
		for i, want := range []int{3, 4, 4} {
			x, rest, has := h.Pop()
			if x != want || !has || rest.Len() != n+1-i {
				t.Errorf("Pop %d is %d, %d numbers, %v, want %d", i, x, rest.Len(), has, want)
			}
			h = rest
		}
	}
}

// PA1: however pushes, pops and joins alternate, and whatever was made of a heap before.
func TestAllWays(t *testing.T) {
	const depth = 6
	var walk func(h Heap, want []int, steps int)
	walk = func(h Heap, want []int, steps int) {
		checkHere(t, "before", h, want)
		if steps == depth {
			check(t, "last", h, want)
			return
		}
		for _, x := range []int{-steps, 0, steps} {
			walk(h.Push(x), slices.Concat(want, []int{x}), steps+1)
		}
		if len(want) > 0 {
			_, rest, _ := h.Pop()
			walk(rest, sorted(want)[1:], steps+1)
		} else {
			checkNone(t, "empty", h)
		}
		walk(h.Join(Of([]int{2, -1, 1})), slices.Concat(want, []int{2, -1, 1}), steps+1)
		if steps < 3 {
			walk(h.Join(h), slices.Concat(want, want), steps+1)
		}
		checkHere(t, "behind", h, want)
	}
	walk(Heap{}, nil, 0)
}

// P2: Of neither changes nor keeps its argument, nor the memory behind its length.
func TestOfKeepsArgument(t *testing.T) {
	whole := []int{4, -9, 2, 6, 77, 78}
	before := slices.Clone(whole)
	h := Of(whole[:4])
	check(t, "pushed", h.Push(1), []int{4, -9, 2, 6, 1})
	if !slices.Equal(whole, before) {
		t.Errorf("the argument is changed: %v", whole)
	}
	clear(whole)
	check(t, "the argument cleared", h, []int{4, -9, 2, 6})
}

// P2: each call of Ints returns memory of its own, and the heap keeps none of it.
func TestResultsAreNew(t *testing.T) {
	for _, numbers := range samples() {
		h := Of(numbers)
		a, b := h.Ints(), h.Ints()
		before := slices.Clone(b)
		clear(a[:cap(a)])
		_ = append(a[:0], 70, 71, 72)
		if !slices.Equal(b, before) {
			t.Errorf("the other result is changed: %v, want %v", b, before)
		}
		check(t, "the heap", h, numbers)
	}
}

// P2: no method changes its receiver or its argument; two heaps that were made from one do not meet.
func TestPersistence(t *testing.T) {
	for _, numbers := range samples() {
		h, fixed := Of(numbers), Of([]int{6, 1, 4})
		_, rest, _ := h.Pop()
		one, two := h.Push(-1), h.Push(2)
		joined, turned := one.Join(fixed), fixed.Join(two)
		joined.Push(5)
		turned.Pop()
		rest.Push(-6)
		rest.Join(one)
		check(t, "h", h, numbers)
		check(t, "fixed", fixed, []int{1, 4, 6})
		check(t, "rest", rest, sorted(numbers)[min(1, len(numbers)):])
		check(t, "one", one, slices.Concat(numbers, []int{-1}))
		check(t, "two", two, slices.Concat(numbers, []int{2}))
		check(t, "joined", joined, slices.Concat(numbers, []int{-1, 6, 1, 4}))
		check(t, "turned", turned, slices.Concat(numbers, []int{2, 6, 1, 4}))
	}
}

// checkRising fails the test unless the heap has the numbers from 0 to n - 1 once each.
func checkRising(t *testing.T, h Heap, n int) {
	t.Helper()
	numbers := h.Ints()
	if len(numbers) != n {
		t.Fatalf("Ints has %d numbers, want %d", len(numbers), n)
	}
	for i := range n {
		x, rest, has := h.Pop()
		if x != i || !has || numbers[i] != i || rest.Len() != n-1-i {
			t.Fatalf("Pop is %d, %d numbers, %v, and Ints has %d, want %d", x, rest.Len(), has, numbers[i], i)
		}
		h = rest
	}
	checkNone(t, "emptied", h)
}

// P1: a large heap needs no more stack than a small one, and no pass over it at every step.
func TestLarge(t *testing.T) {
	defer debug.SetMaxStack(debug.SetMaxStack(1 << 20))
	const n = 1 << 19
	var h, evens, odds Heap
	var l []int
	for i := range n {
		// As 7919 and n have no common divisor, every number comes once.
		x := i * 7919 % n
		l = append(l, x)
		h = h.Push(x)
		if x%2 == 0 {
			evens = evens.Push(x)
		} else {
			odds = odds.Push(x)
		}
		if _, has := h.Min(); !has || h.Len() != i+1 {
			t.Fatalf("%d numbers, want %d", h.Len(), i+1)
		}
	}
	checkRising(t, h, n)
	checkRising(t, evens.Join(odds), n)
	checkRising(t, Of(l), n)
}

// P1: nor does a heap with a path through all its numbers, or with all of them below one, or with both.
func TestDeep(t *testing.T) {
	defer debug.SetMaxStack(debug.SetMaxStack(1 << 20))
	const n = 1 << 18
	var deep, wide, both Heap
	for i := range n {
		deep = deep.Push(n - 1 - i)
		wide = wide.Push(i)
		// What was there comes below the next number, before or behind the one after it.
		next := 2 * (n - 1 - i)
		if i%2 == 0 {
			both = both.Push(next).Push(next + 1)
		} else {
			both = both.Join(Of([]int{next, next + 1}))
		}
	}
	down, across := 0, 0
	for r := (&row{tree: deep.root}); r != nil; r = r.tree.below {
		down++
	}
	for r := wide.root.below; r != nil; r = r.next {
		across++
	}
	if down != n || across != n-1 {
		t.Errorf("%d numbers on the path and %d below the first, want %d and %d", down, across, n, n-1)
	}
	checkRising(t, deep, n)
	checkRising(t, wide, n)
	checkRising(t, both, 2*n)
}

func ExampleHeap() {
	h := Of([]int{5, 3, 8, 3})
	x, rest, has := h.Pop()
	fmt.Println(x, rest.Ints(), has, h.Ints())
	// Output: 3 [3 5 8] true [3 3 5 8]
}

func ExampleHeap_Join() {
	fmt.Println(Of([]int{5, 3}).Join(Of([]int{3, 1})).Ints())
	// Output: [1 3 3 5]
}
