package queue

import (
	"fmt"
	"runtime/debug"
	"slices"
	"testing"

	"wattlework/samples"
)

// pushed returns the queue with the numbers added at the end, one by one.
func pushed(q Queue, numbers ...int) Queue {
	for _, x := range numbers {
		q = q.Push(x)
	}
	return q
}

// popped returns the queue without its first n numbers.
func popped(t *testing.T, q Queue, n int) Queue {
	t.Helper()
	for range n {
		_, rest, has := q.Pop()
		if !has {
			t.Fatalf("Pop reports that %v is empty", q.Ints())
		}
		q = rest
	}
	return q
}

// check fails the test unless everything that reads a queue finds the wanted numbers in it.
func check(t *testing.T, name string, q Queue, want []int) {
	t.Helper()
	checkHere(t, name, q, want)
	for i, w := range want {
		x, rest, has := q.Pop()
		if x != w || !has {
			t.Errorf("%s: Pop %d is %d %v, want %d true", name, i, x, has, w)
		}
		checkHere(t, name, rest, want[i+1:])
		q = rest
	}
	checkNone(t, name, q)
}

// checkHere is check without popping.
func checkHere(t *testing.T, name string, q Queue, want []int) {
	t.Helper()
	if got := q.Ints(); !slices.Equal(got, want) {
		t.Errorf("%s: Ints %v, want %v", name, got, want)
	}
	if got := q.Len(); got != len(want) {
		t.Errorf("%s: Len %d, want %d", name, got, len(want))
	}
	checkHalves(t, name, q, want)
}

// checkHalves fails the test unless the two lists are as QU2 states, and Halves tells of them.
func checkHalves(t *testing.T, name string, q Queue, want []int) {
	t.Helper()
	a, b := q.Halves()
	if a+b != len(want) || b > a || b < 0 {
		t.Fatalf("%s: Halves %d and %d of %d numbers", name, a, b, len(want))
	}
	if got := q.front.Ints(); !slices.Equal(got, want[:a]) {
		t.Errorf("%s: the front list is %v, want %v", name, got, want[:a])
	}
	behind := slices.Clone(want[a:])
	slices.Reverse(behind)
	if got := q.back.Ints(); !slices.Equal(got, behind) {
		t.Errorf("%s: the back list is %v, want %v", name, got, behind)
	}
}

// checkNone fails the test unless Pop reports that the queue is empty, and gives an empty one with that.
func checkNone(t *testing.T, name string, q Queue) {
	t.Helper()
	x, rest, has := q.Pop()
	if x != 0 || has {
		t.Errorf("%s: Pop of an empty queue is %d %v, want 0 false", name, x, has)
	}
	checkHere(t, name, rest, nil)
}

// QU1: the numbers of a queue come in the order in which they were pushed.
func TestNumbers(t *testing.T) {
	for _, numbers := range samples.Lists() {
		check(t, fmt.Sprint("pushed", numbers), pushed(Queue{}, numbers...), numbers)
	}
}

// QU1: Push adds at the end, and Pop takes from the front.
func TestPushPop(t *testing.T) {
	q := Queue{}.Push(5).Push(3).Push(8)
	x, rest, has := q.Pop()
	if x != 5 || !has {
		t.Errorf("Pop is %d %v, want 5 true", x, has)
	}
	check(t, "rest", rest, []int{3, 8})
	check(t, "pushed again", rest.Push(9), []int{3, 8, 9})
}

// QU1: the zero value is an empty queue like any other.
func TestZeroValue(t *testing.T) {
	var q Queue
	check(t, "zero", q, nil)
	check(t, "pushed", q.Push(4), []int{4})
	if a, b := q.Halves(); a != 0 || b != 0 {
		t.Errorf("Halves of the zero value are %d and %d", a, b)
	}
}

// QU1: a queue that has been emptied, and what Pop gives with false, are empty queues like any other.
func TestEmptied(t *testing.T) {
	for _, numbers := range samples.Lists() {
		empty := popped(t, pushed(Queue{}, numbers...), len(numbers))
		check(t, "emptied", empty, nil)
		check(t, "emptied and filled", pushed(empty, 6, 2, 7), []int{6, 2, 7})
		_, none, _ := empty.Pop()
		check(t, "none", none, nil)
		check(t, "none filled", pushed(none, 6, 2, 7), []int{6, 2, 7})
	}
}

// QU1: a 0 in front is not taken for the end.
func TestPopZero(t *testing.T) {
	x, rest, has := Queue{}.Push(0).Push(0).Pop()
	if x != 0 || !has {
		t.Errorf("Pop is %d %v, want 0 true", x, has)
	}
	check(t, "rest", rest, []int{0})
}

// QU1, QU2: however pushes and pops alternate, and whatever was made of a queue before.
func TestAllWays(t *testing.T) {
	const depth = 12
	var walk func(q Queue, want []int, steps int)
	walk = func(q Queue, want []int, steps int) {
		checkHere(t, "before", q, want)
		if steps == depth {
			check(t, "last", q, want)
			return
		}
		walk(q.Push(steps), append(slices.Clip(want), steps), steps+1)
		if x, rest, has := q.Pop(); has != (len(want) > 0) {
			t.Fatalf("Pop of %v reports %v", want, has)
		} else if has {
			if x != want[0] {
				t.Errorf("Pop of %v is %d", want, x)
			}
			walk(rest, want[1:], steps+1)
		} else {
			checkNone(t, "empty", q)
		}
		checkHere(t, "behind", q, want)
	}
	walk(Queue{}, nil, 0)
}

// QU2: the lengths add up, and the back list is not the longer one, as a queue grows, moves on and shrinks.
func TestHalves(t *testing.T) {
	var q Queue
	var want []int
	step := func(push bool, x int) {
		if push {
			q, want = q.Push(x), append(want, x)
		} else {
			q, want = popped(t, q, 1), want[1:]
		}
		checkHere(t, "step", q, want)
	}
	for i := range 150 {
		step(true, i)
	}
	for i := range 400 {
		step(i%2 == 1, i)
	}
	for len(want) > 0 {
		step(false, 0)
	}
}

// QU2: a single number is in the front list, because the back list is not the longer one.
func TestHalvesOfOne(t *testing.T) {
	if a, b := (Queue{}).Push(3).Halves(); a != 1 || b != 0 {
		t.Errorf("Halves are %d and %d, want 1 and 0", a, b)
	}
}

// P2: no method changes its receiver; two queues that were made from one do not meet.
func TestPersistence(t *testing.T) {
	for _, numbers := range samples.Lists() {
		q := pushed(Queue{}, numbers...)
		one, two := pushed(q, 1, 11, 111), pushed(q, 2, 22)
		rest := popped(t, q, min(2, len(numbers)))
		behind := rest.Push(3)
		pushed(behind, numbers...)
		check(t, "q", q, numbers)
		check(t, "one", one, slices.Concat(numbers, []int{1, 11, 111}))
		check(t, "two", two, slices.Concat(numbers, []int{2, 22}))
		check(t, "rest", rest, numbers[min(2, len(numbers)):])
		check(t, "behind", behind, slices.Concat(numbers[min(2, len(numbers)):], []int{3}))
		check(t, "q again", q, numbers)
	}
}

// P2: each call of Ints returns memory of its own, and the queue keeps none of it.
func TestIntsIsNew(t *testing.T) {
	for _, numbers := range samples.Lists() {
		q := pushed(Queue{}, numbers...)
		a, b := q.Ints(), q.Ints()
		clear(a)
		_ = append(a[:0], 70, 71, 72)
		if !slices.Equal(b, numbers) {
			t.Errorf("the other result is changed: %v, want %v", b, numbers)
		}
		check(t, "the queue", q, numbers)
	}
}

// P1: a long queue needs no more stack than a short one, and no pass over it at every step.
func TestLong(t *testing.T) {
	defer debug.SetMaxStack(debug.SetMaxStack(1 << 20))
	const n = 1 << 20
	var q Queue
	for i := range n {
		q = q.Push(i)
	}
	for i := range n {
		q = popped(t, q.Push(n+i), 1)
		if a, b := q.Halves(); a+b != n || b > a || q.Len() != n {
			t.Fatalf("Halves are %d and %d, Len is %d, want %d", a, b, q.Len(), n)
		}
	}
	for i, x := range q.Ints() {
		if x != n+i {
			t.Fatalf("number %d is %d, want %d", i, x, n+i)
		}
	}
	for i := range n {
		x, rest, has := q.Pop()
		if x != n+i || !has || rest.Len() != n-i-1 {
			t.Fatalf("Pop is %d, %d numbers, %v, want %d", x, rest.Len(), has, n+i)
		}
		q = rest
	}
	checkNone(t, "emptied", q)
}

func ExampleQueue() {
	q := Queue{}.Push(5).Push(3).Push(8)
	x, rest, has := q.Pop()
	fmt.Println(x, rest.Ints(), has, q.Ints())
	// Output: 5 [3 8] true [5 3 8]
}

func ExampleQueue_Halves() {
	front, back := Queue{}.Push(5).Push(3).Push(8).Push(1).Halves()
	fmt.Println(front+back, back <= front)
	// Output: 4 true
}
