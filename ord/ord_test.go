package ord

import (
	"fmt"
	"runtime/debug"
	"slices"
	"testing"

	"wattlework/api"
	"wattlework/samples"
)

// sorted returns the numbers of all lists in ascending order.
func sorted(lists ...[]int) []int {
	all := slices.Concat(lists...)
	slices.Sort(all)
	return all
}

// counted returns how often x is one of the numbers.
func counted(numbers []int, x int) int {
	times := 0
	for _, y := range numbers {
		if y == x {
			times++
		}
	}
	return times
}

// chosen returns those of the numbers for which keep is true.
func chosen(numbers []int, keep func(int) bool) []int {
	return slices.DeleteFunc(slices.Clone(numbers), func(x int) bool { return !keep(x) })
}

// without returns the numbers other than x.
func without(numbers []int, x int) []int {
	return chosen(numbers, func(y int) bool { return y != x })
}

// between returns the numbers from low to high.
func between(numbers []int, low, high int) []int {
	return chosen(numbers, func(x int) bool { return low <= x && x <= high })
}

// check fails the test unless everything that reads an order finds the wanted numbers in it, which have to be sorted.
func check(t *testing.T, name string, o Order, want []int) {
	t.Helper()
	if got := o.Ints(); !slices.Equal(got, want) {
		t.Errorf("%s: Ints %v, want %v", name, got, want)
	}
	if got := o.Between(api.Least, api.Greatest); !slices.Equal(got, want) {
		t.Errorf("%s: all Between %v, want %v", name, got, want)
	}
	for _, x := range samples.Near(want) {
		if got := o.Count(x); got != counted(want, x) {
			t.Errorf("%s: Count(%d) of %v is %d, want %d", name, x, want, got, counted(want, x))
		}
	}
}

// checkAll is check, and also fails the test unless Between finds the wanted numbers from any number to any other one.
func checkAll(t *testing.T, name string, o Order, want []int) {
	t.Helper()
	check(t, name, o, want)
	ends := samples.Near(want)
	for _, low := range ends {
		for _, high := range ends {
			if got := o.Between(low, high); !slices.Equal(got, between(want, low, high)) {
				t.Errorf("%s: Between(%d, %d) of %v is %v", name, low, high, want, got)
			}
		}
	}
}

// inserted returns the order with the numbers inserted one by one.
func inserted(o Order, numbers ...int) Order {
	for _, x := range numbers {
		o = o.Insert(x)
	}
	return o
}

// ways returns orders of the same numbers that came about in several ways.
func ways(numbers []int) map[string]Order {
	up := sorted(numbers)
	down := slices.Clone(up)
	slices.Reverse(down)
	half := len(numbers) / 2
	var even, odd, single Order
	thinned := Of(numbers)
	for i, x := range up {
		if i%2 == 0 {
			even = even.Insert(x)
		} else {
			odd = odd.Insert(x)
		}
		single = Of([]int{x}).Merge(single)
		thinned = thinned.Insert(x + 1)
	}
	for _, x := range samples.Near(numbers) {
		thinned = thinned.Drop(x)
	}
	return map[string]Order{
		"Of":                 Of(numbers),
		"Of, ascending":      Of(up),
		"Of, descending":     Of(down),
		"Insert":             inserted(Order{}, numbers...),
		"Insert, ascending":  inserted(Order{}, up...),
		"Insert, descending": inserted(Order{}, down...),
		"Drop and Insert":    inserted(thinned, numbers...),
		"Merge of parts":     Of(numbers[:half]).Merge(Of(numbers[half:])),
		"Merge of halves":    Of(up[half:]).Merge(Of(up[:half])),
		"Merge by turns":     even.Merge(odd),
		"Merge one by one":   single,
	}
}

// multisets calls f with every list of up to n numbers that are among the given ones, which ascend.
func multisets(among []int, n int, f func([]int)) {
	var walk func(l []int, among []int)
	walk = func(l []int, among []int) {
		f(l)
		if len(l) == n {
			return
		}
		for i, x := range among {
			walk(append(slices.Clip(l), x), among[i:])
		}
	}
	walk(nil, among)
}

// OR1: the numbers of an order, however it came about, in ascending order and as often as they were given.
func TestNumbers(t *testing.T) {
	for _, numbers := range samples.Lists() {
		for way, o := range ways(numbers) {
			check(t, fmt.Sprint(way, numbers), o, sorted(numbers))
		}
	}
}

// OR1: the zero value is an empty order like any other.
func TestZeroValue(t *testing.T) {
	var zero Order
	checkAll(t, "zero", zero, nil)
	for _, x := range []int{0, 4, -4, api.Least, api.Greatest} {
		some := []int{x}
		checkAll(t, "Insert", zero.Insert(x), some)
		checkAll(t, "Drop", zero.Drop(x), nil)
		checkAll(t, "Merge behind", zero.Insert(x).Merge(zero), some)
		checkAll(t, "Merge before", zero.Merge(Of(some)), some)
		if got := zero.Count(x); got != 0 {
			t.Errorf("Count(%d) is %d", x, got)
		}
	}
	checkAll(t, "Merge", zero.Merge(zero), nil)
}

// OR1: an order that has been emptied is an empty one like any other.
func TestEmptied(t *testing.T) {
	some := []int{6, 2, 7, 2}
	for _, numbers := range samples.Lists() {
		for way, o := range ways(numbers) {
			for _, x := range numbers {
				o = o.Drop(x)
			}
			name := fmt.Sprint(way, numbers, ", emptied")
			checkAll(t, name, o, nil)
			check(t, name+" and Insert", inserted(o, some...), sorted(some))
			check(t, name+" and Merge", o.Merge(Of(some)).Merge(o), sorted(some))
		}
	}
}

// OR1: Insert adds one occurrence of any number, whether it is there or not.
func TestInsert(t *testing.T) {
	for _, numbers := range samples.Lists() {
		o := Of(numbers)
		for _, x := range samples.Near(numbers) {
			name := fmt.Sprintf("Insert(%d) into %v", x, numbers)
			once := o.Insert(x)
			check(t, name, once, sorted(numbers, []int{x}))
			check(t, name+", twice", once.Insert(x), sorted(numbers, []int{x, x}))
		}
		check(t, "the order", o, sorted(numbers))
	}
}

// OR1: Drop removes all occurrences of any number, or changes nothing if there is none.
func TestDrop(t *testing.T) {
	for _, numbers := range samples.Lists() {
		o := Of(numbers).Merge(Of(numbers))
		twice := sorted(numbers, numbers)
		for _, x := range samples.Near(numbers) {
			name := fmt.Sprintf("Drop(%d) of %v", x, twice)
			dropped := o.Drop(x)
			check(t, name, dropped, without(twice, x))
			check(t, name+", twice", dropped.Drop(x), without(twice, x))
			check(t, name+" and Insert", dropped.Insert(x), sorted(without(twice, x), []int{x}))
		}
		check(t, "the order", o, twice)
	}
}

// OR1: Between has each number as often as it occurs, both ends included, and none if the ends are turned.
func TestBetween(t *testing.T) {
	for _, numbers := range samples.Lists() {
		checkAll(t, "Of", Of(numbers), sorted(numbers))
	}
	for n := range 60 {
		up := samples.Rising(n)
		o := Of(slices.Repeat(up, 3))
		for i := range n {
			for j := i; j < n; j++ {
				want := sorted(slices.Repeat(up[i:j+1], 3))
				if got := o.Between(i, j); !slices.Equal(got, want) {
					t.Errorf("Between(%d, %d) is %v, want %v", i, j, got, want)
				}
				if got := o.Between(j+1, i); len(got) != 0 {
					t.Errorf("Between(%d, %d) is %v, want none", j+1, i, got)
				}
			}
		}
	}
}

// OR1: all small multisets of the edges of ints and of numbers between, one by one and in pairs.
func TestSmall(t *testing.T) {
	among := []int{api.Least, -1, 0, 1, api.Greatest}
	multisets(among, 4, func(a []int) {
		o := Of(a)
		checkAll(t, "Of", o, a)
		for _, x := range among {
			checkAll(t, "Insert", o.Insert(x), sorted(a, []int{x}))
			checkAll(t, "Drop", o.Drop(x), without(a, x))
		}
		multisets(among, 4, func(b []int) {
			check(t, fmt.Sprint("Merge of ", a, b), o.Merge(Of(b)), sorted(a, b))
		})
	})
}

// OR1: multiplicities are added, whichever order it is that has more numbers, or greater ones.
func TestMerge(t *testing.T) {
	for _, a := range samples.Lists() {
		for _, b := range samples.Lists() {
			check(t, fmt.Sprint("Merge of ", a, b), Of(a).Merge(Of(b)), sorted(a, b))
		}
	}
	const n = 60
	up := samples.Rising(n)
	for i := range n {
		for j := i; j < n; j++ {
			inside, outside := up[i:j], slices.Concat(up[:i], up[j:])
			name := fmt.Sprintf("Merge of the numbers from %d to %d ", i, j-1)
			check(t, name+"with the others", Of(inside).Merge(Of(outside)), up)
			check(t, name+"with all", Of(inside).Merge(Of(up)), sorted(inside, up))
			check(t, name+"into the others", Of(outside).Merge(Of(inside)), up)
			check(t, name+"into all", Of(up).Merge(Of(inside)), sorted(inside, up))
		}
	}
}

// OR1: two orders whose numbers come in runs of any lengths by turns.
func TestMergeOfRuns(t *testing.T) {
	const n = 120
	up := samples.Rising(n)
	for one := 1; one <= 12; one++ {
		for other := 1; other <= 12; other++ {
			inOne := func(x int) bool { return x%(one+other) < one }
			a := chosen(up, inOne)
			b := chosen(up, func(x int) bool { return !inOne(x) })
			name := fmt.Sprintf("runs of %d and %d", one, other)
			check(t, name, Of(a).Merge(Of(b)), up)
			check(t, name+", turned", Of(b).Merge(Of(a)), up)
			check(t, name+", one of them twice", Of(a).Merge(Of(b)).Merge(Of(a)), sorted(a, up))
		}
	}
}

// OR1: however all methods alternate, and whatever was made of an order before.
func TestAllWays(t *testing.T) {
	const depth = 5
	var walk func(o Order, want []int, steps int)
	walk = func(o Order, want []int, steps int) {
		check(t, "before", o, want)
		if steps == depth {
			return
		}
		for _, x := range []int{3, 5 - steps} {
			walk(o.Insert(x), sorted(want, []int{x}), steps+1)
			walk(o.Drop(x), without(want, x), steps+1)
		}
		part := between(want, 2, 5)
		walk(Of(o.Between(2, 5)), part, steps+1)
		walk(o.Drop(3).Merge(o), sorted(without(want, 3), want), steps+1)
		check(t, "behind", o, want)
	}
	walk(Order{}, nil, 0)
	some := []int{1, 1, 3, 3, 3, 4, 6, 7, 7, 9}
	walk(Of(some), some, 0)
}

// P2: Of neither changes nor keeps its argument, nor the memory behind its length.
func TestOfKeepsArgument(t *testing.T) {
	whole := []int{4, -9, 6, 4, 77, 78}
	before := slices.Clone(whole)
	o := Of(whole[:4])
	check(t, "Insert", o.Insert(1), []int{-9, 1, 4, 4, 6})
	if !slices.Equal(whole, before) {
		t.Errorf("the argument is changed: %v", whole)
	}
	clear(whole)
	check(t, "the argument cleared", o, []int{-9, 4, 4, 6})
}

// P2: each call of Ints and of Between returns memory of its own, and the order keeps none of it.
func TestResultsAreNew(t *testing.T) {
	for _, numbers := range samples.Lists() {
		want := sorted(numbers)
		for way, o := range ways(numbers) {
			name := fmt.Sprint(way, numbers)
			calls := map[string]func() []int{
				"Ints":    o.Ints,
				"Between": func() []int { return o.Between(api.Least, api.Greatest) },
			}
			for call, list := range calls {
				a, b, c := list(), o.Ints(), o.Between(api.Least, api.Greatest)
				clear(a[:cap(a)])
				_ = append(a[:0], 70, 71, 72)
				if !slices.Equal(b, want) || !slices.Equal(c, want) {
					t.Errorf("%s: what comes from %s is shared with %v or %v", name, call, b, c)
				}
				check(t, name, o, want)
			}
		}
	}
}

// P2: no method changes its receiver or the other order; what was made of one order does not meet.
func TestPersistence(t *testing.T) {
	some := []int{-3, 5, 5, 8}
	for n := 1; n < 60; n++ {
		numbers := sorted(samples.Many(n))
		x := numbers[n/2]
		o, other := Of(numbers), Of(some)
		rest := o.Drop(x)
		others := without(numbers, x)
		made := []struct {
			o    Order
			want []int
		}{
			{o, numbers},
			{other, some},
			{o.Insert(x), sorted(numbers, []int{x})},
			{o.Insert(1000), sorted(numbers, []int{1000})},
			{o.Insert(-1000), sorted(numbers, []int{-1000})},
			{rest, others},
			{rest.Insert(x), sorted(others, []int{x})},
			{rest.Insert(1001), sorted(others, []int{1001})},
			{o.Merge(other), sorted(numbers, some)},
			{other.Merge(o), sorted(numbers, some)},
			{rest.Merge(o), sorted(numbers, others)},
			{o.Merge(o), sorted(numbers, numbers)},
		}
		// The first check reads all of every order, which must leave the others as they are.
		for range 2 {
			for i, m := range made {
				check(t, fmt.Sprintf("%d of %d numbers", i, n), m.o, m.want)
			}
		}
	}
}

// P1: an order of many numbers needs no more stack than a small one, and no pass over it at every step.
func TestLong(t *testing.T) {
	defer debug.SetMaxStack(debug.SetMaxStack(1 << 20))
	const n = 1 << 17
	up := samples.Rising(n)
	whole := Of(up)
	changed := whole
	times := slices.Repeat([]int{1}, n)
	for i := range 1 << 13 {
		x := i * 7919 % n
		if got := whole.Count(x); got != 1 {
			t.Fatalf("Count(%d) is %d", x, got)
		}
		if got := whole.Between(x, x+1); len(got) != min(2, n-x) || got[0] != x {
			t.Fatalf("Between(%d, %d) is %v", x, x+1, got)
		}
		changed = changed.Insert(x).Insert(n + x).Merge(Of([]int{x}))
		times[x] += 2
		changed = changed.Drop(n - 1 - x).Insert(n - 1 - x).Drop(n + x)
		times[n-1-x] = 1
	}
	var want []int
	for x, of := range times {
		want = append(want, slices.Repeat([]int{x}, of)...)
	}
	if !slices.Equal(changed.Ints(), want) {
		t.Error("the changed order has other numbers")
	}
	if !slices.Equal(whole.Ints(), up) {
		t.Error("the order is changed")
	}
}

// P1: two orders of many numbers are merged, whose numbers come by turns, in runs, or one behind the other.
func TestLongMerge(t *testing.T) {
	defer debug.SetMaxStack(debug.SetMaxStack(1 << 20))
	const n = 1 << 17
	up := samples.Rising(n)
	for _, run := range []int{1, 2, 1000, n / 2} {
		inOne := func(x int) bool { return x/run%2 == 0 }
		a := Of(chosen(up, inOne))
		b := Of(chosen(up, func(x int) bool { return !inOne(x) }))
		for _, merged := range []Order{a.Merge(b), b.Merge(a)} {
			if !slices.Equal(merged.Ints(), up) {
				t.Errorf("runs of %d: other numbers", run)
			}
		}
	}
	// Where all of one order come behind those of the other one, there is no pass over either of them.
	low, high := Of(up[:n/2]), Of(up[n/2:])
	for range 1 << 15 {
		if got := low.Merge(high).Count(n - 1); got != 1 {
			t.Fatalf("Count(%d) is %d", n-1, got)
		}
	}
}

// P1: an order of very many numbers, made of few.
func TestShared(t *testing.T) {
	const doublings = 29
	o := Of([]int{5, 3, 5, 8})
	for range doublings {
		o = o.Merge(o)
	}
	const n = 1 << doublings
	o = o.Insert(5).Insert(4)
	for x, want := range map[int]int{2: 0, 3: n, 4: 1, 5: 2*n + 1, 6: 0, 8: n} {
		if got := o.Count(x); got != want {
			t.Errorf("Count(%d) is %d, want %d", x, got, want)
		}
	}
	if got := o.Between(4, 4); !slices.Equal(got, []int{4}) {
		t.Errorf("Between(4, 4) is %v", got)
	}
	if got := o.Between(6, 7); len(got) != 0 {
		t.Errorf("Between(6, 7) is %v", got)
	}
	check(t, "the others", o.Drop(3).Drop(5).Drop(8).Insert(8), []int{4, 8})
}

func ExampleOrder() {
	o := Of([]int{5, 3, 5, 8})
	fmt.Println(o.Ints(), o.Count(5), o.Drop(5).Ints(), o.Insert(3).Ints())
	// Output: [3 5 5 8] 2 [3 8] [3 3 5 5 8]
}

func ExampleOrder_Merge() {
	o := Of([]int{5, 3, 5, 8})
	fmt.Println(o.Merge(Of([]int{4, 5, 9})).Ints())
	// Output: [3 4 5 5 5 8 9]
}

func ExampleOrder_Between() {
	o := Of([]int{5, 3, 5, 8})
	fmt.Println(o.Between(4, 7), o.Between(5, 8), o.Between(7, 4))
	// Output: [5 5] [5 5 8] []
}
