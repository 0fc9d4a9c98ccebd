package list

import (
	"fmt"
	"iter"
	"runtime/debug"
	"slices"
	"testing"

	"wattlework/api"
	"wattlework/samples"
)

// check fails the test unless everything that reads a list finds the wanted numbers in it.
func check(t *testing.T, name string, l List, want []int) {
	t.Helper()
	if got := l.Ints(); !slices.Equal(got, want) {
		t.Errorf("%s: Ints %v, want %v", name, got, want)
	}
	if got := slices.Collect(l.All()); !slices.Equal(got, want) {
		t.Errorf("%s: All %v, want %v", name, got, want)
	}
	if got := l.Len(); got != len(want) {
		t.Errorf("%s: Len %d, want %d", name, got, len(want))
	}
	for i, w := range want {
		if got, has := l.At(i); got != w || !has {
			t.Errorf("%s: At(%d) is %d %v, want %d true", name, i, got, has, w)
		}
	}
	for _, w := range want {
		x, rest, has := l.Pop()
		if x != w || !has {
			t.Errorf("%s: Pop is %d %v, want %d true", name, x, has, w)
		}
		l = rest
	}
	if x, rest, has := l.Pop(); x != 0 || rest.Len() != 0 || has {
		t.Errorf("%s: behind the last number, Pop is %d, %d numbers, %v", name, x, rest.Len(), has)
	}
}

// ways returns lists of the same numbers that came about in several ways.
func ways(numbers []int) map[string]List {
	pushed := List{}
	for _, x := range slices.Backward(numbers) {
		pushed = pushed.Push(x)
	}
	_, popped, _ := Of(numbers).Push(99).Pop()
	half := len(numbers) / 2
	return map[string]List{
		"Of":   Of(numbers),
		"Push": pushed,
		"Pop":  popped,
		"Rev":  Of(numbers).Rev().Rev(),
		"Join": Of(numbers[:half]).Join(Of(numbers[half:])),
		"Each": Of(numbers).Each(func(x int) int { return x }),
		"Keep": Of(numbers).Keep(func(int) bool { return true }),
	}
}

// LS1: the numbers of a list, however it came about.
func TestNumbers(t *testing.T) {
	for _, numbers := range samples.Lists() {
		for way, l := range ways(numbers) {
			check(t, fmt.Sprint(way, numbers), l, numbers)
		}
	}
}

// LS1: the zero value is an empty list like any other.
func TestZeroValue(t *testing.T) {
	var l List
	check(t, "zero", l, nil)
	check(t, "Push", l.Push(4), []int{4})
	check(t, "Rev", l.Rev(), nil)
	check(t, "Join", l.Join(l), nil)
	check(t, "Join before", l.Join(Of([]int{1, 2})), []int{1, 2})
	check(t, "Join behind", Of([]int{1, 2}).Join(l), []int{1, 2})
	check(t, "Each", l.Each(func(x int) int { return x + 1 }), nil)
	check(t, "Keep", l.Keep(func(int) bool { return true }), nil)
}

// LS1: a list that has been emptied is an empty list like any other.
func TestEmptied(t *testing.T) {
	_, l, has := Of([]int{6}).Pop()
	if !has {
		t.Error("Pop reports that the list is empty")
	}
	check(t, "emptied", l, nil)
	check(t, "Push", l.Push(3), []int{3})
	check(t, "Join", l.Join(Of([]int{1})), []int{1})
}

// LS1: Push adds at the front, and Pop takes from there.
func TestPushPop(t *testing.T) {
	l := List{}.Push(1).Push(2).Push(3)
	check(t, "pushed", l, []int{3, 2, 1})
	x, rest, has := l.Pop()
	if x != 3 || !has {
		t.Errorf("Pop is %d %v, want 3 true", x, has)
	}
	check(t, "rest", rest, []int{2, 1})
	check(t, "pushed again", rest.Push(9), []int{9, 2, 1})
}

// LS1: a 0 at the front is not taken for the end.
func TestPopZero(t *testing.T) {
	x, rest, has := Of([]int{0, 4}).Pop()
	if x != 0 || !has {
		t.Errorf("Pop is %d %v, want 0 true", x, has)
	}
	check(t, "rest", rest, []int{4})
}

// LS1, P1: there is no index below 0 or from Len on, and the number beside false is 0.
func TestAtOutside(t *testing.T) {
	for _, numbers := range samples.Lists() {
		l := Of(numbers)
		for _, i := range samples.Outside(len(numbers)) {
			if x, has := l.At(i); x != 0 || has {
				t.Errorf("At(%d) of %v is %d %v, want 0 false", i, numbers, x, has)
			}
		}
	}
}

// LS1: All stops where its range does, and begins anew in the next one.
func TestAllStops(t *testing.T) {
	all := Of([]int{5, 3, 8}).All()
	for stop := 1; stop <= 3; stop++ {
		var got []int
		for x := range all {
			got = append(got, x)
			if len(got) == stop {
				break
			}
		}
		if want := []int{5, 3, 8}[:stop]; !slices.Equal(got, want) {
			t.Errorf("All up to %d numbers: %v, want %v", stop, got, want)
		}
	}
}

// LS1: a range within a range over the same numbers leaves the outer one alone.
func TestAllNested(t *testing.T) {
	all := Of([]int{1, 2, 3}).All()
	var got []int
	for x := range all {
		for y := range all {
			if y > x {
				break
			}
			got = append(got, 10*x+y)
		}
	}
	if want := []int{11, 21, 22, 31, 32, 33}; !slices.Equal(got, want) {
		t.Errorf("got %v, want %v", got, want)
	}
}

// LS1: All can be drawn from number by number.
func TestAllPulled(t *testing.T) {
	next, stop := iter.Pull(Of([]int{4, 0}).All())
	defer stop()
	for _, want := range []int{4, 0} {
		if x, has := next(); x != want || !has {
			t.Errorf("next is %d %v, want %d true", x, has, want)
		}
	}
	if x, has := next(); x != 0 || has {
		t.Errorf("behind the last number, next is %d %v", x, has)
	}
}

// LS2: Rev has the numbers from the last one on.
func TestRev(t *testing.T) {
	check(t, "Rev", Of([]int{5, 3, 8}).Rev(), []int{8, 3, 5})
	for _, numbers := range samples.Lists() {
		want := slices.Clone(numbers)
		slices.Reverse(want)
		check(t, fmt.Sprint("Rev", numbers), Of(numbers).Rev(), want)
	}
}

// LS2: Join has the list's own numbers in front; a list may be joined to itself.
func TestJoin(t *testing.T) {
	check(t, "Join", Of([]int{5, 3, 8}).Join(Of([]int{1})), []int{5, 3, 8, 1})
	for _, a := range samples.Lists() {
		l := Of(a)
		for _, b := range samples.Lists() {
			check(t, fmt.Sprint("Join", a, b), l.Join(Of(b)), slices.Concat(a, b))
		}
		check(t, fmt.Sprint("Join to itself", a), l.Join(l), slices.Concat(a, a))
	}
}

// LS2: Each applies f to every number, to a repeated one as well, and once.
func TestEach(t *testing.T) {
	for _, numbers := range samples.Lists() {
		var seen, want []int
		for _, x := range numbers {
			want = append(want, 3*x-1)
		}
		got := Of(numbers).Each(func(x int) int {
			seen = append(seen, x)
			return 3*x - 1
		})
		check(t, fmt.Sprint("Each", numbers), got, want)
		if !slices.Equal(seen, numbers) {
			t.Errorf("Each of %v applied f to %v", numbers, seen)
		}
	}
}

// LS2: Keep keeps all, some or none, in order, and asks once about each number.
func TestKeep(t *testing.T) {
	check(t, "Keep", Of([]int{5, 3, 8}).Keep(func(x int) bool { return x > 4 }), []int{5, 8})
	keeps := []func(int) bool{
		func(int) bool { return true },
		func(int) bool { return false },
		func(x int) bool { return x%2 == 0 },
		func(x int) bool { return x < 0 },
	}
	for _, numbers := range samples.Lists() {
		for i, keep := range keeps {
			var seen, want []int
			for _, x := range numbers {
				if keep(x) {
					want = append(want, x)
				}
			}
			got := Of(numbers).Keep(func(x int) bool {
				seen = append(seen, x)
				return keep(x)
			})
			check(t, fmt.Sprint("Keep", i, numbers), got, want)
			if !slices.Equal(seen, numbers) {
				t.Errorf("Keep of %v asked about %v", numbers, seen)
			}
		}
	}
}

// LS2: Fold goes from the first number on, with what came of the numbers before as f's first argument.
func TestFold(t *testing.T) {
	if got := Of([]int{5, 3, 8}).Fold(1, func(a, b int) int { return 10*a + b }); got != 1538 {
		t.Errorf("Fold is %d, want 1538", got)
	}
	minus := func(a, b int) int { return 3*a - b }
	for _, numbers := range samples.Lists() {
		want := 17
		for _, x := range numbers {
			want = minus(want, x)
		}
		if got := Of(numbers).Fold(17, minus); got != want {
			t.Errorf("Fold of %v is %d, want %d", numbers, got, want)
		}
	}
}

// LS2: Fold of an empty list is z, and f is not called.
func TestFoldEmpty(t *testing.T) {
	for _, z := range []int{0, -6, api.Greatest, api.Least} {
		got := List{}.Fold(z, func(int, int) int {
			t.Error("Fold called f")
			return 1
		})
		if got != z {
			t.Errorf("Fold is %d, want %d", got, z)
		}
	}
}

// LS2: what f does with the list while it is being applied disturbs nothing.
func TestFunctionsUseTheList(t *testing.T) {
	l := Of([]int{1, 2, 3})
	sum := func(x int) int {
		return l.Fold(x, func(a, b int) int { return a + b })
	}
	check(t, "Each", l.Each(sum), []int{7, 8, 9})
	check(t, "Keep", l.Keep(func(x int) bool { return l.Push(x).Rev().Len() == 4 && x != 2 }), []int{1, 3})
	check(t, "the list", l, []int{1, 2, 3})
}

// P2: Of neither changes nor keeps its argument, nor the memory behind its length.
func TestOfKeepsArgument(t *testing.T) {
	whole := []int{4, -9, 2, 77, 78}
	before := slices.Clone(whole)
	l := Of(whole[:3])
	check(t, "pushed", l.Rev().Push(1).Join(l), []int{1, 2, -9, 4, 4, -9, 2})
	if !slices.Equal(whole, before) {
		t.Errorf("the argument is changed: %v", whole)
	}
	clear(whole)
	check(t, "the argument cleared", l, []int{4, -9, 2})
}

// P2: each call of Ints returns memory of its own.
func TestIntsIsNew(t *testing.T) {
	l := Of([]int{5, 3, 8})
	a, b := l.Ints(), l.Ints()
	clear(a)
	_ = append(a[:1], 70, 71, 72)
	if !slices.Equal(b, []int{5, 3, 8}) {
		t.Errorf("the other result is changed: %v", b)
	}
	check(t, "the list", l, []int{5, 3, 8})
}

// P2: no method changes its receiver or its argument, and what was made from a list earlier stays as well.
func TestPersistence(t *testing.T) {
	for _, a := range samples.Lists() {
		for _, b := range samples.Lists() {
			l, m := Of(a), Of(b)
			_, rest, _ := l.Pop()
			one, two := l.Push(1), l.Push(2)
			joined := l.Join(m)
			joined.Push(3)
			joined.Rev()
			joined.Each(func(x int) int { return x + 1 })
			joined.Keep(func(x int) bool { return x > 0 })
			rest.Push(4)
			m.Join(joined)
			check(t, "l", l, a)
			check(t, "m", m, b)
			check(t, "rest", rest, a[min(1, len(a)):])
			check(t, "one", one, slices.Concat([]int{1}, a))
			check(t, "two", two, slices.Concat([]int{2}, a))
			check(t, "joined", joined, slices.Concat(a, b))
		}
	}
}

// P1: a long list needs no more stack than a short one, and no pass over it to push, pop or count.
func TestLong(t *testing.T) {
	defer debug.SetMaxStack(debug.SetMaxStack(1 << 20))
	const n = 1 << 20
	var l List
	for i := range n {
		l = l.Push(i)
		if l.Len() != i+1 {
			t.Fatalf("Len is %d, want %d", l.Len(), i+1)
		}
	}
	same := l.Join(l).Rev().Each(func(x int) int { return x / 2 }).Keep(func(x int) bool { return x < n/4 })
	if got := same.Fold(0, func(a, b int) int { return a + 1 }); got != n || got != same.Len() || got != len(same.Ints()) {
		t.Errorf("%d numbers are kept, Len is %d, want %d", got, same.Len(), n)
	}
	for i := n - 1; i >= 0; i-- {
		x, rest, has := l.Pop()
		if x != i || !has || rest.Len() != i {
			t.Fatalf("Pop is %d, %d numbers, %v, want %d", x, rest.Len(), has, i)
		}
		l = rest
	}
}

func ExampleList() {
	l := Of([]int{5, 3, 8})
	longer := l.Push(1)
	fmt.Println(l.Ints(), longer.Ints())
	// Output: [5 3 8] [1 5 3 8]
}

func ExampleList_All() {
	for x := range Of([]int{5, 3, 8}).All() {
		fmt.Println(x)
	}
	// Output:
	// 5
	// 3
	// 8
}
