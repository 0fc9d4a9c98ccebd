package prio

import (
	"fmt"
	"runtime/debug"
	"slices"
	"testing"

	"wattlework/api"
	"wattlework/samples"
)

// pushed returns the queue with the items added at the end, one by one.
func pushed(q Queue, items ...api.Item) Queue {
	for _, it := range items {
		q = q.Push(it)
	}
	return q
}

// ranked returns items with the given ranks, whose values are their indices.
func ranked(ranks []int) []api.Item {
	var items []api.Item
	for i, rank := range ranks {
		items = append(items, api.Item{Rank: rank, Val: i})
	}
	return items
}

// lists returns lists of items with many and with few different ranks.
func lists() [][]api.Item {
	var all [][]api.Item
	for _, numbers := range samples.Lists() {
		all = append(all, ranked(numbers))
		few := slices.Clone(numbers)
		for i, x := range few {
			few[i] = x % 3
		}
		all = append(all, ranked(few))
	}
	return all
}

// top returns the index of the item that comes first in rank. There has to be one.
func top(items []api.Item) int {
	best := 0
	for i, it := range items {
		if it.Rank > items[best].Rank {
			best = i
		}
	}
	return best
}

// without returns the items without the one at index i.
func without(items []api.Item, i int) []api.Item {
	return slices.Concat(items[:i], items[i+1:])
}

// check fails the test unless everything that reads a queue finds the wanted items in it, and Pop in turn.
func check(t *testing.T, name string, q Queue, want []api.Item) {
	t.Helper()
	checkHere(t, name, q, want)
	for len(want) > 0 {
		i := top(want)
		it, rest, has := q.Pop()
		if it != want[i] || !has {
			t.Errorf("%s: Pop of %v is %v %v, want %v true", name, want, it, has, want[i])
		}
		q, want = rest, without(want, i)
		checkHere(t, name, q, want)
	}
	checkNone(t, name, q)
}

// checkHere is check without popping.
func checkHere(t *testing.T, name string, q Queue, want []api.Item) {
	t.Helper()
	if got := q.Items(); !slices.Equal(got, want) {
		t.Errorf("%s: Items %v, want %v", name, got, want)
	}
	if got := q.Len(); got != len(want) {
		t.Errorf("%s: Len %d, want %d", name, got, len(want))
	}
	var first api.Item
	if len(want) > 0 {
		first = want[top(want)]
	}
	if got, has := q.Top(); got != first || has != (len(want) > 0) {
		t.Errorf("%s: Top of %v is %v %v", name, want, got, has)
	}
}

// checkNone fails the test unless Pop reports that the queue is empty, and gives an empty one with that.
func checkNone(t *testing.T, name string, q Queue) {
	t.Helper()
	it, rest, has := q.Pop()
	if it != (api.Item{}) || has {
		t.Errorf("%s: Pop of an empty queue is %v %v", name, it, has)
	}
	checkHere(t, name, rest, nil)
}

// PR1: the items of a queue are in the order of their arrival, and come out of it by their ranks.
func TestItems(t *testing.T) {
	for _, items := range lists() {
		check(t, fmt.Sprint("pushed ", items), pushed(Queue{}, items...), items)
	}
}

// PR1: all orders of few ranks, the least and the greatest of all numbers among them.
func TestOrders(t *testing.T) {
	ranks := []int{api.Least, -1, 0, api.Greatest}
	const most = 6
	var walk func(q Queue, items []api.Item)
	walk = func(q Queue, items []api.Item) {
		check(t, "pushed", q, items)
		if len(items) == most {
			return
		}
		for _, rank := range ranks {
			it := api.Item{Rank: rank, Val: len(items)}
			walk(q.Push(it), append(slices.Clip(items), it))
		}
	}
	walk(Queue{}, nil)
}

// PR1: of several items with the greatest rank, the first one is told, wherever it is, and the others stay in their order.
func TestFirstOfSeveral(t *testing.T) {
	const n = 40
	for i := range n {
		for j := i; j < n; j++ {
			items := ranked(samples.Many(n))
			items[i].Rank, items[j].Rank = 1000, 1000
			q := pushed(Queue{}, items...)
			name := fmt.Sprintf("the greatest rank at %d and %d", i, j)
			checkHere(t, name, q, items)
			first, rest, has := q.Pop()
			if first != items[i] || !has {
				t.Errorf("%s: Pop is %v %v, want %v true", name, first, has, items[i])
			}
			checkHere(t, name+", popped", rest, without(items, i))
		}
	}
}

// PR1: items of one rank come out in the order of their arrival, whatever the rank is.
func TestOneRank(t *testing.T) {
	for _, rank := range []int{0, 7, -7, api.Greatest, api.Least} {
		for n := range 40 {
			items := ranked(slices.Repeat([]int{rank}, n))
			check(t, fmt.Sprintf("%d items of rank %d", n, rank), pushed(Queue{}, items...), items)
		}
	}
}

// PR1: the rank alone decides, and equal items are kept apart.
func TestValues(t *testing.T) {
	items := []api.Item{{Rank: 1, Val: 9}, {Rank: 2, Val: -5}, {Rank: 2, Val: 5}, {Rank: 1, Val: 9}, {Rank: 2, Val: -5}}
	check(t, "any values", pushed(Queue{}, items...), items)
	edges := []api.Item{{Rank: 0, Val: api.Greatest}, {Rank: 0, Val: api.Least}, {Rank: -1, Val: api.Greatest}}
	check(t, "edges", pushed(Queue{}, edges...), edges)
	zeros := make([]api.Item, 9)
	check(t, "zeros", pushed(Queue{}, zeros...), zeros)
}

// PR1, P1: the zero value is an empty queue like any other; beside false are the zero item and the empty queue.
func TestZeroValue(t *testing.T) {
	var zero Queue
	it := api.Item{Rank: -4, Val: 4}
	check(t, "zero", zero, nil)
	check(t, "pushed", zero.Push(it), []api.Item{it})
	check(t, "joined", zero.Join(zero), nil)
	check(t, "joined before", zero.Join(zero.Push(it)), []api.Item{it})
	check(t, "joined behind", zero.Push(it).Join(zero), []api.Item{it})
	if got, has := zero.Top(); got != (api.Item{}) || has {
		t.Errorf("Top is %v %v", got, has)
	}
}

// PR1: a queue that has been emptied, and what Pop gives with false, are empty queues like any other.
func TestEmptied(t *testing.T) {
	some := ranked([]int{6, 2, 7})
	for _, items := range lists() {
		q := pushed(Queue{}, items...)
		for range items {
			_, q, _ = q.Pop()
		}
		check(t, "emptied", q, nil)
		check(t, "emptied and filled", pushed(q, some...), some)
		_, none, _ := q.Pop()
		check(t, "none", none, nil)
		check(t, "none filled", pushed(none, some...).Join(none), some)
	}
}

// PR1: the items of the queue come before those of the other one, whatever their ranks and numbers are.
func TestJoin(t *testing.T) {
	for _, a := range lists() {
		for _, b := range lists() {
			joined := pushed(Queue{}, a...).Join(pushed(Queue{}, b...))
			checkHere(t, fmt.Sprint("Join of ", a, b), joined, slices.Concat(a, b))
		}
	}
	items := ranked(samples.Many(50))
	for n := range items {
		for m := range items[n:] {
			a, b := items[:n], items[n:n+m]
			joined := pushed(Queue{}, b...).Join(pushed(Queue{}, a...))
			checkHere(t, fmt.Sprintf("Join of %d and %d items", m, n), joined, slices.Concat(b, a))
		}
	}
	q := pushed(Queue{}, ranked([]int{5, 8, 3, 8})...)
	check(t, "joined with itself", q.Join(q).Join(q), slices.Repeat(q.Items(), 3))
}

// PR1: however all methods alternate, and whatever was made of a queue before.
func TestAllWays(t *testing.T) {
	const depth = 6
	var walk func(q Queue, want []api.Item, steps int)
	walk = func(q Queue, want []api.Item, steps int) {
		checkHere(t, "before", q, want)
		if steps == depth {
			check(t, "last", q, want)
			return
		}
		for _, rank := range []int{2, steps} {
			it := api.Item{Rank: rank, Val: 100 + steps}
			walk(q.Push(it), append(slices.Clip(want), it), steps+1)
		}
		if _, rest, has := q.Pop(); has {
			others := without(want, top(want))
			walk(rest, others, steps+1)
			walk(rest.Join(q), slices.Concat(others, want), steps+1)
		} else if len(want) > 0 {
			t.Fatalf("Pop of %v reports false", want)
		}
		checkHere(t, "behind", q, want)
	}
	walk(Queue{}, nil, 0)
	some := ranked([]int{2, 0, 4, 2, 4, 1, 3, 0, 4, 3, 1})
	walk(pushed(Queue{}, some...), some, 0)
}

// P2: each call of Items returns memory of its own, and the queue keeps none of it.
func TestItemsAreNew(t *testing.T) {
	for _, items := range lists() {
		q := pushed(Queue{}, items...)
		a, b := q.Items(), q.Items()
		clear(a[:cap(a)])
		_ = append(a[:0], ranked([]int{70, 71, 72})...)
		if !slices.Equal(b, items) {
			t.Errorf("the other items are changed: %v, want %v", b, items)
		}
		checkHere(t, "the queue", q, items)
	}
}

// P2: no method changes its receiver or the other queue; what was made of one queue does not meet.
func TestPersistence(t *testing.T) {
	some := ranked([]int{5, 300, 8})
	least, most := api.Item{Rank: -300, Val: 1}, api.Item{Rank: 200, Val: 2}
	for n := 1; n < 50; n++ {
		items := ranked(samples.Many(n))
		others := without(items, top(items))
		q, other := pushed(Queue{}, items...), pushed(Queue{}, some...)
		one, two := q.Push(least), q.Push(most)
		_, rest, _ := q.Pop()
		three, four := rest.Push(most), rest.Push(least)
		five, six := q.Join(other), other.Join(rest)
		made := []struct {
			q    Queue
			want []api.Item
		}{
			{q, items},
			{other, some},
			{one, slices.Concat(items, []api.Item{least})},
			{two, slices.Concat(items, []api.Item{most})},
			{rest, others},
			{three, slices.Concat(others, []api.Item{most})},
			{four, slices.Concat(others, []api.Item{least})},
			{five, slices.Concat(items, some)},
			{six, slices.Concat(some, others)},
		}
		// The first check pops all of every queue, which must leave the others as they are.
		for range 2 {
			for i, m := range made {
				check(t, fmt.Sprintf("%d of %d items", i, n), m.q, m.want)
			}
		}
	}
}

// P1: a queue of many items needs no more stack than a small one, and no pass over it at every step.
func TestLong(t *testing.T) {
	defer debug.SetMaxStack(debug.SetMaxStack(1 << 20))
	const n = 1 << 16
	const ranks = 1 << 10
	var items []api.Item
	var q Queue
	for i := range n {
		it := api.Item{Rank: i * 7919 % ranks, Val: i}
		items = append(items, it)
		q = q.Push(it)
	}
	// A sort that keeps the order of equal ranks is the order in which they come out.
	want := slices.Clone(items)
	slices.SortStableFunc(want, func(a, b api.Item) int { return b.Rank - a.Rank })
	rest := q
	for i, w := range want {
		first, _ := rest.Top()
		it, others, has := rest.Pop()
		if it != w || first != w || !has || others.Len() != n-i-1 {
			t.Fatalf("Pop %d is %v, %d items, %v, and Top is %v, want %v", i, it, others.Len(), has, first, w)
		}
		rest = others
	}
	checkNone(t, "emptied", rest)
	if !slices.Equal(q.Items(), items) {
		t.Error("the queue is changed")
	}
}

// P1: a queue of very many items, made of few.
func TestShared(t *testing.T) {
	const doublings = 29
	const n = 3 << doublings
	q := pushed(Queue{}, ranked([]int{5, 8, 3})...)
	for range doublings {
		q = q.Join(q)
	}
	last := api.Item{Rank: 9, Val: 7}
	q = q.Push(last)
	if it, has := q.Top(); it != last || !has || q.Len() != n+1 {
		t.Fatalf("Top is %v %v, Len %d, want %v true %d", it, has, q.Len(), last, n+1)
	}
	_, q, _ = q.Pop()
	for i := range 1000 {
		it, rest, has := q.Pop()
		if want := (api.Item{Rank: 8, Val: 1}); it != want || !has || rest.Len() != n-i-1 {
			t.Fatalf("Pop %d is %v, %d items, %v, want %v", i, it, rest.Len(), has, want)
		}
		q = rest
	}
}

func ExampleQueue() {
	q := Queue{}.Push(api.Item{Rank: 1, Val: 5}).Push(api.Item{Rank: 2, Val: 6}).Push(api.Item{Rank: 2, Val: 7})
	it, rest, has := q.Pop()
	fmt.Println(it, rest.Items(), has, q.Len())
	// Output: {2 6} [{1 5} {2 7}] true 3
}

func ExampleQueue_Join() {
	q := Queue{}.Push(api.Item{Rank: 1, Val: 5})
	both := q.Join(Queue{}.Push(api.Item{Rank: 3, Val: 6}))
	top, has := both.Top()
	fmt.Println(both.Items(), top, has)
	// Output: [{1 5} {3 6}] {3 6} true
}
