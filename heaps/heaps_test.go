// Package heaps tests what the heaps of packages bino, left and pair have in common: their chapters promise it in the
// same words.
package heaps

import (
	"fmt"
	"runtime/debug"
	"slices"
	"testing"

	"wattlework/api"
	"wattlework/bino"
	"wattlework/left"
	"wattlework/pair"
	"wattlework/samples"
)

// heap is what the heaps of every package can do.
type heap[H any] interface {
	Len() int
	Push(x int) H
	Min() (int, bool)
	Pop() (int, H, bool)
	Join(h H) H
	Ints() []int
}

// kind is the heaps of one package. It has the function that makes one of a list of numbers, and one that checks what
// else holds for each of them, if anything does.
type kind[H heap[H]] struct {
	of   func(l []int) H
	also func(t *testing.T, name string, h H)
}

// BI1, BI2
func TestBino(t *testing.T) {
	testAll(t, kind[bino.Heap]{of: bino.Of, also: checkRanks})
}

// LE1, LE2
func TestLeft(t *testing.T) {
	testAll(t, kind[left.Heap]{of: left.Of, also: checkSpine})
}

// PA1
func TestPair(t *testing.T) {
	testAll(t, kind[pair.Heap]{of: pair.Of, also: func(*testing.T, string, pair.Heap) {}})
}

// testAll runs all tests with the heaps of one package.
func testAll[H heap[H]](t *testing.T, k kind[H]) {
	for _, test := range []struct {
		name string
		run  func(t *testing.T)
	}{
		{"numbers", k.testNumbers},
		{"zero value", k.testZeroValue},
		{"emptied", k.testEmptied},
		{"pop one", k.testPopOne},
		{"zero number", k.testZeroNumber},
		{"orders", k.testOrders},
		{"join", k.testJoin},
		{"join itself", k.testJoinItself},
		{"doubled", k.testDoubled},
		{"all ways", k.testAllWays},
		{"of keeps argument", k.testOfKeepsArgument},
		{"results are new", k.testResultsAreNew},
		{"persistence", k.testPersistence},
		{"large", k.testLarge},
		{"deep", k.testDeep},
	} {
		t.Run(test.name, test.run)
	}
}

// checkRanks fails the test unless the ranks are the places of the ones of the length in binary, in increasing order.
func checkRanks(t *testing.T, name string, h bino.Heap) {
	t.Helper()
	var ones []int
	for place, n := 0, h.Len(); n > 0; place, n = place+1, n/2 {
		if n%2 == 1 {
			ones = append(ones, place)
		}
	}
	if got := h.Ranks(); !slices.Equal(got, ones) {
		t.Errorf("%s: Ranks %v of %d numbers, want %v", name, got, h.Len(), ones)
	}
}

// checkSpine fails the test unless the length of the path to the right is within its bounds.
func checkSpine(t *testing.T, name string, h left.Heap) {
	t.Helper()
	if got, n := h.Spine(), h.Len(); 1<<got > n+1 || (got == 0) != (n == 0) {
		t.Errorf("%s: Spine %d of %d numbers", name, got, n)
	}
}

// sorted returns the numbers of all the lists, in ascending order.
func sorted(lists ...[]int) []int {
	all := slices.Concat(lists...)
	slices.Sort(all)
	return all
}

// check fails the test unless everything that reads a heap finds the wanted numbers in it, and Pop in turn.
func (k kind[H]) check(t *testing.T, name string, h H, numbers []int) {
	t.Helper()
	want := sorted(numbers)
	k.checkHere(t, name, h, want)
	for i, w := range want {
		x, rest, has := h.Pop()
		if x != w || !has {
			t.Errorf("%s: Pop %d is %d %v, want %d true", name, i, x, has, w)
		}
		k.checkHere(t, name, rest, want[i+1:])
		h = rest
	}
	k.checkNone(t, name, h)
}

// checkHere is check without popping.
func (k kind[H]) checkHere(t *testing.T, name string, h H, numbers []int) {
	t.Helper()
	want := sorted(numbers)
	if got := h.Ints(); !slices.Equal(got, want) {
		t.Errorf("%s: Ints %v, want %v", name, got, want)
	}
	if got := h.Len(); got != len(want) {
		t.Errorf("%s: Len %d, want %d", name, got, len(want))
	}
	least := 0
	if len(want) > 0 {
		least = want[0]
	}
	if got, has := h.Min(); got != least || has != (len(want) > 0) {
		t.Errorf("%s: Min is %d %v of %v", name, got, has, want)
	}
	k.also(t, name, h)
}

// checkNone fails the test unless Min and Pop report that the heap is empty, and Pop gives an empty one with that.
func (k kind[H]) checkNone(t *testing.T, name string, h H) {
	t.Helper()
	if x, has := h.Min(); x != 0 || has {
		t.Errorf("%s: Min of an empty heap is %d %v, want 0 false", name, x, has)
	}
	x, rest, has := h.Pop()
	if x != 0 || has {
		t.Errorf("%s: Pop of an empty heap is %d %v, want 0 false", name, x, has)
	}
	k.checkHere(t, name, rest, nil)
}

// ways returns heaps of the same numbers that came about in several ways.
func (k kind[H]) ways(numbers []int) map[string]H {
	var pushed, joined H
	for _, x := range slices.Backward(numbers) {
		pushed = pushed.Push(x)
	}
	popped := k.of(numbers).Push(api.Least).Push(api.Least).Push(api.Least)
	for range 3 {
		_, popped, _ = popped.Pop()
	}
	for _, x := range numbers {
		joined = k.of([]int{x}).Join(joined)
	}
	third := len(numbers) / 3
	return map[string]H{
		"Of":    k.of(numbers),
		"Push":  pushed,
		"Pop":   popped,
		"Join":  joined,
		"parts": k.of(numbers[:third]).Join(k.of(numbers[third:])),
	}
}

// BI1, LE1, PA1: the numbers of a heap, however it came about.
func (k kind[H]) testNumbers(t *testing.T) {
	for _, numbers := range samples.Lists() {
		for way, h := range k.ways(numbers) {
			k.check(t, fmt.Sprint(way, numbers), h, numbers)
		}
	}
}

// BI1, LE1, PA1: the zero value is an empty heap like any other.
func (k kind[H]) testZeroValue(t *testing.T) {
	var h H
	k.check(t, "zero", h, nil)
	k.check(t, "pushed", h.Push(4), []int{4})
	k.check(t, "joined", h.Join(k.of([]int{4, 2})), []int{2, 4})
	k.check(t, "joined to", k.of([]int{4, 2}).Join(h), []int{2, 4})
	k.check(t, "joined with itself", h.Join(h), nil)
}

// BI1, LE1, PA1: a heap that has been emptied, and what comes with false, are empty heaps like any other.
func (k kind[H]) testEmptied(t *testing.T) {
	for _, numbers := range samples.Lists() {
		h := k.of(numbers)
		for range numbers {
			_, h, _ = h.Pop()
		}
		_, none, _ := h.Pop()
		for name, empty := range map[string]H{"emptied": h, "none": none} {
			k.check(t, name, empty, nil)
			k.check(t, name+" and filled", empty.Push(7).Push(2).Push(6), []int{2, 6, 7})
			k.check(t, name+" and joined", empty.Join(k.of(numbers)), numbers)
		}
	}
}

// BI1, LE1, PA1: Pop takes one occurrence of the smallest number, and leaves the others.
func (k kind[H]) testPopOne(t *testing.T) {
	h := k.of([]int{3, 3, 5, 3, 8})
	for _, want := range [][]int{{3, 3, 5, 8}, {3, 5, 8}, {5, 8}} {
		x, rest, has := h.Pop()
		if x != 3 || !has {
			t.Errorf("Pop is %d %v, want 3 true", x, has)
		}
		k.check(t, "rest", rest, want)
		h = rest
	}
}

// BI1, LE1, PA1: a 0 as the smallest number is not taken for the end.
func (k kind[H]) testZeroNumber(t *testing.T) {
	for _, numbers := range [][]int{{0}, {0, 4}, {5, 0, 4}} {
		h := k.of(numbers)
		if x, has := h.Min(); x != 0 || !has {
			t.Errorf("Min of %v is %d %v, want 0 true", numbers, x, has)
		}
		if x, rest, has := h.Pop(); x != 0 || !has || rest.Len() != len(numbers)-1 {
			t.Errorf("Pop of %v is %d, %d numbers, %v, want 0 true", numbers, x, rest.Len(), has)
		}
	}
}

// BI1, LE1, PA1: the order in which numbers come does not matter.
func (k kind[H]) testOrders(t *testing.T) {
	numbers := []int{1, 2, 2, 3, 4, 5}
	var walk func(fixed int)
	walk = func(fixed int) {
		if fixed == len(numbers) {
			for way, h := range k.ways(numbers) {
				k.check(t, fmt.Sprint(way, numbers), h, numbers)
			}
		}
		for i := fixed; i < len(numbers); i++ {
			numbers[fixed], numbers[i] = numbers[i], numbers[fixed]
			walk(fixed + 1)
			numbers[fixed], numbers[i] = numbers[i], numbers[fixed]
		}
	}
	walk(0)
}

// BI1, LE1, PA1: Join adds the multiplicities, for all sizes of both heaps up to 40.
func (k kind[H]) testJoin(t *testing.T) {
	for n := range 41 {
		for m := range 41 {
			a, b := samples.Many(n), samples.Many(m)
			h, other := k.of(a), k.of(b)
			k.checkHere(t, fmt.Sprintf("%d and %d", n, m), h.Join(other), slices.Concat(a, b))
			k.checkHere(t, "one", h, a)
			k.checkHere(t, "other", other, b)
		}
	}
	for _, a := range samples.Lists() {
		for _, b := range samples.Lists() {
			k.check(t, fmt.Sprint(a, b), k.of(a).Join(k.of(b)), slices.Concat(a, b))
		}
	}
}

// BI1, LE1, PA1: a heap joined with itself, or with one that it was made from, has the numbers of both.
func (k kind[H]) testJoinItself(t *testing.T) {
	for _, numbers := range samples.Lists() {
		h := k.of(numbers)
		k.check(t, "twice", h.Join(h), slices.Concat(numbers, numbers))
		four := h.Join(h).Join(h.Join(h))
		k.check(t, "four times", four, slices.Concat(numbers, numbers, numbers, numbers))
		_, rest, _ := h.Pop()
		k.check(t, "with the rest", h.Join(rest), slices.Concat(numbers, sorted(numbers)[min(1, len(numbers)):]))
		k.check(t, "with more", h.Join(h.Push(2)), slices.Concat(numbers, numbers, []int{2}))
		k.check(t, "the heap", h, numbers)
	}
}

// BI1, LE1, PA1: a heap joined with itself again and again, up to the greatest size of P5, has all its numbers.
func (k kind[H]) testDoubled(t *testing.T) {
	const doublings = 30
	for _, numbers := range [][]int{{4}, {4, 5}} {
		h, n := k.of(numbers), len(numbers)
		for n < 1<<doublings {
			h, n = h.Join(h), 2*n
			k.also(t, "doubled", h)
		}
		h = h.Push(5).Push(3)
		for i, want := range []int{3, 4, 4} {
			x, rest, has := h.Pop()
			if x != want || !has || rest.Len() != n+1-i {
				t.Errorf("Pop %d is %d, %d numbers, %v, want %d", i, x, rest.Len(), has, want)
			}
			k.also(t, "popped", rest)
			h = rest
		}
	}
}

// BI1, LE1, PA1: however pushes, pops and joins alternate, and whatever was made of a heap before.
func (k kind[H]) testAllWays(t *testing.T) {
	const depth = 6
	var walk func(h H, want []int, steps int)
	walk = func(h H, want []int, steps int) {
		k.checkHere(t, "before", h, want)
		if steps == depth {
			k.check(t, "last", h, want)
			return
		}
		for _, x := range []int{-steps, 0, steps} {
			walk(h.Push(x), slices.Concat(want, []int{x}), steps+1)
		}
		if len(want) > 0 {
			_, rest, _ := h.Pop()
			walk(rest, sorted(want)[1:], steps+1)
		} else {
			k.checkNone(t, "empty", h)
		}
		walk(h.Join(k.of([]int{2, -1, 1})), slices.Concat(want, []int{2, -1, 1}), steps+1)
		if steps < 3 {
			walk(h.Join(h), slices.Concat(want, want), steps+1)
		}
		k.checkHere(t, "behind", h, want)
	}
	var none H
	walk(none, nil, 0)
}

// P2: Of neither changes nor keeps its argument, nor the memory behind its length.
func (k kind[H]) testOfKeepsArgument(t *testing.T) {
	whole := []int{4, -9, 2, 6, 77, 78}
	before := slices.Clone(whole)
	h := k.of(whole[:4])
	k.check(t, "pushed", h.Push(1), []int{4, -9, 2, 6, 1})
	if !slices.Equal(whole, before) {
		t.Errorf("the argument is changed: %v", whole)
	}
	clear(whole)
	k.check(t, "the argument cleared", h, []int{4, -9, 2, 6})
}

// P2: each call of Ints returns memory of its own, and the heap keeps none of it.
func (k kind[H]) testResultsAreNew(t *testing.T) {
	for _, numbers := range samples.Lists() {
		h := k.of(numbers)
		a, b := h.Ints(), h.Ints()
		before := slices.Clone(b)
		clear(a[:cap(a)])
		_ = append(a[:0], 70, 71, 72)
		if !slices.Equal(b, before) {
			t.Errorf("the other result is changed: %v, want %v", b, before)
		}
		k.check(t, "the heap", h, numbers)
	}
}

// P2: no method changes its receiver or its argument; two heaps that were made from one do not meet.
func (k kind[H]) testPersistence(t *testing.T) {
	for _, numbers := range samples.Lists() {
		h, fixed := k.of(numbers), k.of([]int{6, 1, 4})
		_, rest, _ := h.Pop()
		one, two := h.Push(-1), h.Push(2)
		joined, turned := one.Join(fixed), fixed.Join(two)
		joined.Push(5)
		turned.Pop()
		rest.Push(-6)
		rest.Join(one)
		k.check(t, "h", h, numbers)
		k.check(t, "fixed", fixed, []int{1, 4, 6})
		k.check(t, "rest", rest, sorted(numbers)[min(1, len(numbers)):])
		k.check(t, "one", one, slices.Concat(numbers, []int{-1}))
		k.check(t, "two", two, slices.Concat(numbers, []int{2}))
		k.check(t, "joined", joined, slices.Concat(numbers, []int{-1, 6, 1, 4}))
		k.check(t, "turned", turned, slices.Concat(numbers, []int{2, 6, 1, 4}))
	}
}

// checkRising fails the test unless the heap has the numbers from 0 to n - 1 once each.
func (k kind[H]) checkRising(t *testing.T, h H, n int) {
	t.Helper()
	numbers := h.Ints()
	if len(numbers) != n {
		t.Fatalf("Ints has %d numbers, want %d", len(numbers), n)
	}
	for i := range n {
		x, rest, has := h.Pop()
		if x != i || !has || numbers[i] != i || rest.Len() != n-1-i {
			t.Fatalf("Pop is %d, %d numbers, %v, and Ints has %d, want %d", x, rest.Len(), has, numbers[i], i)
		}
		h = rest
	}
	k.checkNone(t, "emptied", h)
}

// P1: a large heap needs no more stack than a small one, and no pass over it at every step.
func (k kind[H]) testLarge(t *testing.T) {
	defer debug.SetMaxStack(debug.SetMaxStack(1 << 20))
	const n = 1 << 18
	var h, evens, odds H
	var l []int
	for i := range n {
		// As 7919 and n have no common divisor, every number comes once.
		x := i * 7919 % n
		l = append(l, x)
		h = h.Push(x)
		if x%2 == 0 {
			evens = evens.Push(x)
		} else {
			odds = odds.Push(x)
		}
		if _, has := h.Min(); !has || h.Len() != i+1 {
			t.Fatalf("%d numbers, want %d", h.Len(), i+1)
		}
	}
	k.checkRising(t, h, n)
	k.checkRising(t, evens.Join(odds), n)
	k.checkRising(t, k.of(l), n)
}

// P1: nor does a heap whose numbers came in an order that may put all of them on one path, or below one.
func (k kind[H]) testDeep(t *testing.T) {
	defer debug.SetMaxStack(debug.SetMaxStack(1 << 20))
	const n = 1 << 16
	var falling, rising, pairs, threes H
	for i := range n {
		down := n - 1 - i
		falling = falling.Push(down)
		rising = rising.Push(i)
		pairs = k.of([]int{2 * down, 2*down + 1}).Join(pairs)
		threes = k.of([]int{3*down + 1, 3*down + 2}).Join(threes).Push(3 * down)
	}
	k.checkRising(t, falling, n)
	k.checkRising(t, rising, n)
	k.checkRising(t, pairs, 2*n)
	k.checkRising(t, threes, 3*n)
}
