package ral

import (
	"fmt"
	"runtime/debug"
	"slices"
	"testing"

	"wattlework/api"
	"wattlework/samples"
	"wattlework/skew"
)

// check fails the test unless everything that reads a list finds the wanted numbers in it, and Pop in turn.
func check(t *testing.T, name string, l List, want []int) {
	t.Helper()
	checkHere(t, name, l, want)
	for i, w := range want {
		x, rest, has := l.Pop()
		if x != w || !has {
			t.Errorf("%s: Pop %d is %d %v, want %d true", name, i, x, has, w)
		}
		checkTrees(t, name, rest, want[i+1:])
		l = rest
	}
	checkNone(t, name, l)
}

// checkHere is check without popping.
func checkHere(t *testing.T, name string, l List, want []int) {
	t.Helper()
	if got := l.Ints(); !slices.Equal(got, want) {
		t.Errorf("%s: Ints %v, want %v", name, got, want)
	}
	if got := l.Len(); got != len(want) {
		t.Errorf("%s: Len %d, want %d", name, got, len(want))
	}
	for i, w := range want {
		if got, has := l.At(i); got != w || !has {
			t.Errorf("%s: At(%d) is %d %v, want %d true", name, i, got, has, w)
		}
	}
	checkTrees(t, name, l, want)
}

// checkTrees fails the test unless the trees are complete and have the wanted numbers, and Sizes tells of them.
func checkTrees(t *testing.T, name string, l List, want []int) {
	t.Helper()
	digits, err := skew.Digits(len(want))
	if err != nil {
		t.Fatalf("%s: Digits of %d: %v", name, len(want), err)
	}
	if got := l.Sizes(); !slices.Equal(got, digits) {
		t.Fatalf("%s: Sizes %v of %d numbers, want %v", name, got, len(want), digits)
	}
	a := l.first
	for _, d := range digits {
		if got, whole := complete(a.root, d); !whole || !slices.Equal(got, want[:d]) {
			t.Errorf("%s: a tree of %d numbers is %v, complete %v, want %v", name, d, got, whole, want[:d])
		}
		a, want = a.next, want[d:]
	}
}

// complete returns the numbers below n, and whether they are a complete binary tree of that size.
func complete(n *node, size int) ([]int, bool) {
	if n == nil || size == 0 {
		return nil, n == nil && size == 0
	}
	left, leftWhole := complete(n.left, size/2)
	right, rightWhole := complete(n.right, size/2)
	return slices.Concat([]int{n.x}, left, right), size%2 == 1 && leftWhole && rightWhole
}

// checkNone fails the test unless Pop reports that the list is empty, and gives an empty one with that.
func checkNone(t *testing.T, name string, l List) {
	t.Helper()
	x, rest, has := l.Pop()
	if x != 0 || has {
		t.Errorf("%s: Pop of an empty list is %d %v, want 0 false", name, x, has)
	}
	checkHere(t, name, rest, nil)
}

// set returns the numbers with x at index i.
func set(numbers []int, i, x int) []int {
	changed := slices.Clone(numbers)
	changed[i] = x
	return changed
}

// ways returns lists of the same numbers that came about in several ways.
func ways(numbers []int) map[string]List {
	pushed := List{}
	for _, x := range slices.Backward(numbers) {
		pushed = pushed.Push(x)
	}
	popped := Of(numbers).Push(97).Push(98).Push(99)
	for range 3 {
		_, popped, _ = popped.Pop()
	}
	replaced := Of(make([]int, len(numbers)))
	for i, x := range numbers {
		replaced, _ = replaced.Set(i, x)
	}
	return map[string]List{
		"Of":   Of(numbers),
		"Push": pushed,
		"Pop":  popped,
		"Set":  replaced,
	}
}

// RA1: the numbers of a list, and its trees, however it came about.
func TestNumbers(t *testing.T) {
	for _, numbers := range samples.Lists() {
		for way, l := range ways(numbers) {
			check(t, fmt.Sprint(way, numbers), l, numbers)
		}
	}
}

// RA1: the zero value is an empty list like any other.
func TestZeroValue(t *testing.T) {
	var l List
	check(t, "zero", l, nil)
	check(t, "pushed", l.Push(4), []int{4})
	if _, has := l.Set(0, 4); has {
		t.Error("the zero value has an index")
	}
}

// RA1: a list that has been emptied, and what comes with false, are empty lists like any other.
func TestEmptied(t *testing.T) {
	for _, numbers := range samples.Lists() {
		l := Of(numbers)
		beside, _ := l.Set(len(numbers), 1)
		for range numbers {
			_, l, _ = l.Pop()
		}
		_, none, _ := l.Pop()
		for name, empty := range map[string]List{"emptied": l, "none": none, "beside false": beside} {
			check(t, name, empty, nil)
			check(t, name+" and filled", empty.Push(7).Push(2).Push(6), []int{6, 2, 7})
		}
	}
}

// RA1: Push adds at the front, and Pop takes from there.
func TestPushPop(t *testing.T) {
	l := List{}.Push(1).Push(2).Push(3).Push(4)
	check(t, "pushed", l, []int{4, 3, 2, 1})
	x, rest, has := l.Pop()
	if x != 4 || !has {
		t.Errorf("Pop is %d %v, want 4 true", x, has)
	}
	check(t, "rest", rest, []int{3, 2, 1})
	check(t, "pushed again", rest.Push(9), []int{9, 3, 2, 1})
}

// RA1: a 0 at the front is not taken for the end, in a tree of one number or of more.
func TestPopZero(t *testing.T) {
	for _, numbers := range [][]int{{0}, {0, 4}, {0, 4, 5}} {
		x, rest, has := Of(numbers).Pop()
		if x != 0 || !has {
			t.Errorf("Pop of %v is %d %v, want 0 true", numbers, x, has)
		}
		check(t, "rest", rest, numbers[1:])
	}
}

// RA1: however pushes, pops and replacements alternate, and whatever was made of a list before.
func TestAllWays(t *testing.T) {
	const depth = 9
	var walk func(l List, want []int, steps int)
	walk = func(l List, want []int, steps int) {
		checkHere(t, "before", l, want)
		if steps == depth {
			check(t, "last", l, want)
			return
		}
		walk(l.Push(steps), slices.Concat([]int{steps}, want), steps+1)
		if len(want) > 0 {
			_, rest, _ := l.Pop()
			walk(rest, want[1:], steps+1)
			i := steps % len(want)
			other, _ := l.Set(i, -steps)
			walk(other, set(want, i, -steps), steps+1)
		} else {
			checkNone(t, "empty", l)
		}
		checkHere(t, "behind", l, want)
	}
	walk(List{}, nil, 0)
}

// RA1: Set replaces the number at every index, by any number, and no other one.
func TestSet(t *testing.T) {
	for n := range 70 {
		numbers := samples.Many(n)
		l := Of(numbers)
		for i := range numbers {
			for _, x := range []int{1000, 0, numbers[i], api.Greatest, api.Least} {
				name := fmt.Sprintf("Set(%d, %d) of %d numbers", i, x, n)
				got, has := l.Set(i, x)
				if !has {
					t.Errorf("%s reports false", name)
				}
				checkHere(t, name, got, set(numbers, i, x))
			}
		}
		check(t, "the list", l, numbers)
	}
}

// RA1: a number that was set is taken and set again like any other.
func TestSetThenMove(t *testing.T) {
	for _, numbers := range samples.Lists() {
		for i := range numbers {
			l, _ := Of(numbers).Set(i, 500)
			want := set(numbers, i, 500)
			check(t, "popped", l, want)
			check(t, "pushed", l.Push(6).Push(7), slices.Concat([]int{7, 6}, want))
			again, _ := l.Set(len(want)-1-i, 501)
			check(t, "set again", again, set(want, len(want)-1-i, 501))
			back, _ := l.Set(i, numbers[i])
			check(t, "set back", back, numbers)
		}
	}
}

// RA1, P1: there is no index below 0 or from Len on; beside false are 0 and the empty list.
func TestOutside(t *testing.T) {
	for _, numbers := range samples.Lists() {
		l := Of(numbers)
		for _, i := range samples.Outside(len(numbers)) {
			if x, has := l.At(i); x != 0 || has {
				t.Errorf("At(%d) of %v is %d %v, want 0 false", i, numbers, x, has)
			}
			m, has := l.Set(i, 9)
			if has {
				t.Errorf("Set(%d) of %v reports true", i, numbers)
			}
			checkHere(t, "beside false", m, nil)
		}
		check(t, "the list", l, numbers)
	}
}

// RA1: the sizes are the skew digits of the length, as a list grows and as it shrinks.
func TestSizes(t *testing.T) {
	const n = 2100
	var l List
	same := func() {
		want, _ := skew.Digits(l.Len())
		if got := l.Sizes(); !slices.Equal(got, want) {
			t.Errorf("Sizes of %d numbers: %v, want %v", l.Len(), got, want)
		}
	}
	for i := range n {
		same()
		l = l.Push(i)
	}
	for range n {
		same()
		_, l, _ = l.Pop()
	}
	same()
}

// RA1: the sizes of some lists, worked out by hand.
func TestSizesByHand(t *testing.T) {
	for n, want := range [][]int{{}, {1}, {1, 1}, {3}, {1, 3}, {1, 1, 3}, {3, 3}, {7}, {1, 7}, {1, 1, 7}, {3, 7}} {
		if got := Of(make([]int, n)).Sizes(); !slices.Equal(got, want) {
			t.Errorf("Sizes of %d numbers: %v, want %v", n, got, want)
		}
	}
}

// P2: Of neither changes nor keeps its argument, nor the memory behind its length.
func TestOfKeepsArgument(t *testing.T) {
	whole := []int{4, -9, 2, 6, 77, 78}
	before := slices.Clone(whole)
	l := Of(whole[:4])
	m, _ := l.Set(1, 5)
	check(t, "set and pushed", m.Push(1), []int{1, 4, 5, 2, 6})
	if !slices.Equal(whole, before) {
		t.Errorf("the argument is changed: %v", whole)
	}
	clear(whole)
	check(t, "the argument cleared", l, []int{4, -9, 2, 6})
}

// P2: each call of Ints and of Sizes returns memory of its own, and the list keeps none of it.
func TestResultsAreNew(t *testing.T) {
	for _, numbers := range samples.Lists() {
		l := Of(numbers)
		for _, call := range []func() []int{l.Ints, l.Sizes} {
			a, b := call(), call()
			before := slices.Clone(b)
			clear(a[:cap(a)])
			_ = append(a[:0], 70, 71, 72)
			if !slices.Equal(b, before) {
				t.Errorf("the other result is changed: %v, want %v", b, before)
			}
		}
		check(t, "the list", l, numbers)
	}
}

// P2: no method changes its receiver; two lists that were made from one do not meet.
func TestPersistence(t *testing.T) {
	for _, numbers := range samples.Lists() {
		l := Of(numbers)
		_, rest, _ := l.Pop()
		one, two := l.Push(1), l.Push(2)
		last := len(numbers)
		other, _ := one.Set(last, 3)
		third, _ := one.Set(last, 4)
		third.Push(5)
		rest.Push(6)
		rest.Set(last/2, 7)
		check(t, "l", l, numbers)
		check(t, "rest", rest, numbers[min(1, len(numbers)):])
		check(t, "one", one, slices.Concat([]int{1}, numbers))
		check(t, "two", two, slices.Concat([]int{2}, numbers))
		check(t, "other", other, set(slices.Concat([]int{1}, numbers), last, 3))
		check(t, "third", third, set(slices.Concat([]int{1}, numbers), last, 4))
	}
}

// P1: a long list needs no more stack than a short one, and no pass over it at every step.
func TestLong(t *testing.T) {
	defer debug.SetMaxStack(debug.SetMaxStack(1 << 20))
	const n = 1 << 20
	numbers := make([]int, n)
	for i := range numbers {
		numbers[i] = i
	}
	l := Of(numbers)
	changed := l
	for i := range n {
		at := i * 7919 % n
		if x, has := l.At(at); x != at || !has {
			t.Fatalf("At(%d) is %d %v", at, x, has)
		}
		changed, _ = changed.Set(at, -at)
	}
	if !slices.Equal(l.Ints(), numbers) {
		t.Error("the list is changed")
	}
	for i, x := range changed.Ints() {
		if x != -i {
			t.Fatalf("number %d is %d, want %d", i, x, -i)
		}
	}
	for i := range n {
		x, rest, has := l.Pop()
		if x != i || !has || rest.Len() != n-i-1 {
			t.Fatalf("Pop is %d, %d numbers, %v, want %d", x, rest.Len(), has, i)
		}
		l = rest
	}
	checkNone(t, "emptied", l)
}

func ExampleList() {
	l := Of([]int{5, 3, 8, 1})
	changed, has := l.Set(2, 9)
	fmt.Println(l.Ints(), changed.Ints(), has)
	// Output: [5 3 8 1] [5 3 9 1] true
}

func ExampleList_Sizes() {
	fmt.Println(Of([]int{5, 3, 8, 1, 2}).Sizes())
	// Output: [1 1 3]
}
