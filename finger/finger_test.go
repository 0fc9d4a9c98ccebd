package finger

import (
	"fmt"
	"runtime/debug"
	"slices"
	"testing"

	"wattlework/api"
	"wattlework/mono"
	"wattlework/samples"
)

// check fails the test unless everything that reads a tree finds the wanted numbers in it, and popping from the left and
// from the right in turn.
func check(t *testing.T, name string, tree Tree, want []int) {
	t.Helper()
	checkHere(t, name, tree, want)
	for i := 0; len(want) > 0; i++ {
		var x, w int
		var has bool
		if i%3 == 0 {
			w, want = want[len(want)-1], want[:len(want)-1]
			x, tree, has = tree.PopRight()
		} else {
			w, want = want[0], want[1:]
			x, tree, has = tree.PopLeft()
		}
		if x != w || !has {
			t.Errorf("%s: pop %d is %d %v, want %d true", name, i, x, has, w)
		}
		checkHere(t, name, tree, want)
	}
	checkNone(t, name, tree)
}

// checkHere is check without popping.
func checkHere(t *testing.T, name string, tree Tree, want []int) {
	t.Helper()
	if got := tree.Ints(); !slices.Equal(got, want) {
		t.Errorf("%s: Ints %v, want %v", name, got, want)
	}
	if got := slices.Collect(tree.All()); !slices.Equal(got, want) {
		t.Errorf("%s: All %v, want %v", name, got, want)
	}
	if got, w := tree.Measure(), mono.Of(want); got != w {
		t.Errorf("%s: Measure %v, want %v", name, got, w)
	}
	checkDigits(t, name, tree, len(want))
}

// checkDigits fails the test unless every level has 1 to 4 elements on either side, or a single one inside all others,
// and so many elements may have n numbers.
func checkDigits(t *testing.T, name string, tree Tree, n int) {
	t.Helper()
	digits := tree.Digits()
	least, most := 0, 0
	small, great := 1, 1
	for k, d := range digits {
		alone := k == len(digits)-1 && d == [2]int{1, 0}
		if !alone && (d[0] < 1 || d[0] > 4 || d[1] < 1 || d[1] > 4) {
			t.Errorf("%s: Digits %v", name, digits)
		}
		least += (d[0] + d[1]) * small
		most += (d[0] + d[1]) * great
		small, great = 2*small, 3*great
	}
	if n < least || n > most {
		t.Errorf("%s: Digits %v of %d numbers", name, digits, n)
	}
}

// checkNone fails the test unless nothing is popped, and an empty tree comes with that.
func checkNone(t *testing.T, name string, tree Tree) {
	t.Helper()
	x, rest, has := tree.PopLeft()
	if x != 0 || has {
		t.Errorf("%s: PopLeft of an empty tree is %d %v, want 0 false", name, x, has)
	}
	checkHere(t, name, rest, nil)
	x, rest, has = tree.PopRight()
	if x != 0 || has {
		t.Errorf("%s: PopRight of an empty tree is %d %v, want 0 false", name, x, has)
	}
	checkHere(t, name, rest, nil)
}

// above returns the predicate that is true for more than n numbers.
func above(n int) func(api.Measure) bool {
	return func(m api.Measure) bool { return m.N > n }
}

// ways returns trees of the same numbers that came about in several ways.
func ways(numbers []int) map[string]Tree {
	left, right, middle := Tree{}, Tree{}, Tree{}
	for _, x := range slices.Backward(numbers) {
		left = left.PushLeft(x)
	}
	half := len(numbers) / 2
	for _, x := range numbers[half:] {
		right = right.PushRight(x)
		middle = middle.PushRight(x)
	}
	for _, x := range slices.Backward(numbers[:half]) {
		middle = middle.PushLeft(x)
	}
	popped := Of(slices.Concat([]int{91, 92, 93}, numbers, []int{94, 95}))
	for range 3 {
		_, popped, _ = popped.PopLeft()
	}
	for range 2 {
		_, popped, _ = popped.PopRight()
	}
	before, _ := Of(slices.Concat(numbers, numbers)).Split(above(len(numbers)))
	_, behind := Of(slices.Concat(numbers, numbers)).Split(above(len(numbers)))
	return map[string]Tree{
		"Of":               Of(numbers),
		"PushLeft":         left,
		"PushRight":        Of(numbers[:half]).Join(right),
		"both":             middle,
		"popped":           popped,
		"Join":             Of(numbers[:half]).Join(Of(numbers[half:])),
		"Split, the left":  before,
		"Split, the right": behind,
	}
}

// FT1, FT3: the numbers of a tree, and its levels, however it came about.
func TestNumbers(t *testing.T) {
	for _, numbers := range samples.Lists() {
		for way, tree := range ways(numbers) {
			check(t, fmt.Sprint(way, numbers), tree, numbers)
		}
	}
}

// FT1: the zero value is an empty tree like any other.
func TestZeroValue(t *testing.T) {
	var tree Tree
	check(t, "zero", tree, nil)
	check(t, "PushLeft", tree.PushLeft(4).PushLeft(0), []int{0, 4})
	check(t, "PushRight", tree.PushRight(4).PushRight(0), []int{4, 0})
	check(t, "Join", tree.Join(tree), nil)
	check(t, "Join before", tree.Join(Of([]int{1, 2})), []int{1, 2})
	check(t, "Join behind", Of([]int{1, 2}).Join(tree), []int{1, 2})
	if got := tree.Measure(); got != mono.None() {
		t.Errorf("Measure %v", got)
	}
}

// FT1: a tree that has been emptied, and what comes with false, are empty trees like any other.
func TestEmptied(t *testing.T) {
	for _, numbers := range samples.Lists() {
		a, b := Of(numbers), Of(numbers)
		for range numbers {
			_, a, _ = a.PopLeft()
			_, b, _ = b.PopRight()
		}
		_, c, _ := a.PopLeft()
		_, d, _ := b.PopRight()
		for i, empty := range []Tree{a, b, c, d} {
			name := fmt.Sprint(i, numbers)
			check(t, name, empty, nil)
			check(t, name, empty.PushLeft(7).PushRight(2).PushLeft(6), []int{6, 7, 2})
		}
	}
}

// FT1: a 0 at an end is not taken for nothing.
func TestPopZero(t *testing.T) {
	for n := range 12 {
		numbers := make([]int, n+1)
		check(t, fmt.Sprint(n+1, " times 0"), Of(numbers), numbers)
	}
}

// FT1, FT3: however pushes, pops, joins and splits alternate, and whatever was made of a tree before.
func TestAllWays(t *testing.T) {
	const depth = 5
	var walk func(tree Tree, want []int, steps int)
	walk = func(tree Tree, want []int, steps int) {
		checkHere(t, "before", tree, want)
		if steps == depth {
			check(t, "last", tree, want)
			return
		}
		walk(tree.PushLeft(steps), slices.Concat([]int{steps}, want), steps+1)
		walk(tree.PushRight(steps), slices.Concat(want, []int{steps}), steps+1)
		walk(tree.Join(tree), slices.Concat(want, want), steps+1)
		if len(want) > 0 {
			_, behind, _ := tree.PopLeft()
			walk(behind, want[1:], steps+1)
			_, before, _ := tree.PopRight()
			walk(before, want[:len(want)-1], steps+1)
			half := len(want) / 2
			left, right := tree.Split(above(half))
			walk(right.Join(left), slices.Concat(want[half:], want[:half]), steps+1)
		}
		checkHere(t, "behind", tree, want)
	}
	walk(Tree{}, nil, 0)
	walk(Of(samples.Rising(11)), samples.Rising(11), 0)
}

// FT1: two trees of any sizes.
func TestJoin(t *testing.T) {
	numbers := samples.Many(70)
	for n := range numbers {
		for m := range numbers[n:] {
			a, b := numbers[:n], numbers[n:n+m]
			name := fmt.Sprintf("Join of %d and %d numbers", n, m)
			checkHere(t, name, Of(a).Join(Of(b)), slices.Concat(a, b))
		}
	}
	for _, a := range samples.Lists() {
		for _, b := range samples.Lists() {
			check(t, fmt.Sprint("Join of ", a, b), Of(a).Join(Of(b)), slices.Concat(a, b))
		}
	}
}

// FT2: a list is split behind every number of it; if p is true for no numbers, before all of them; if it is never true,
// behind all of them.
func TestSplit(t *testing.T) {
	for _, numbers := range samples.Lists() {
		for way, tree := range ways(numbers) {
			for n := -1; n <= len(numbers)+1; n++ {
				name := fmt.Sprintf("%s %v, more than %d", way, numbers, n)
				left, right := tree.Split(above(n))
				before := min(max(n, 0), len(numbers))
				check(t, name, left, numbers[:before])
				check(t, name, right, numbers[before:])
			}
			checkHere(t, way, tree, numbers)
		}
	}
}

// FT2: every part of the measure may be asked for.
func TestSplitByMeasure(t *testing.T) {
	numbers := []int{4, 1, 7, 0, 0, 12, 3, -20, 15, 8, 2, 30}
	tree := Of(numbers)
	cases := []struct {
		name   string
		p      func(api.Measure) bool
		before int
	}{
		{"Most of 7", func(m api.Measure) bool { return m.Most >= 7 }, 2},
		{"Most above 7", func(m api.Measure) bool { return m.Most > 7 }, 5},
		{"Most above all", func(m api.Measure) bool { return m.Most > 30 }, 12},
		{"Least below 0", func(m api.Measure) bool { return m.Least < 0 }, 7},
		{"Least of 4", func(m api.Measure) bool { return m.Least <= 4 }, 0},
		{"a sum of 12", func(m api.Measure) bool { return m.N > 6 || m.Sum >= 12 }, 2},
		{"a sum above 12", func(m api.Measure) bool { return m.N > 6 || m.Sum > 12 }, 5},
		{"a hash from 3 numbers on", func(m api.Measure) bool { return m.N > 3 || m.Hash == mono.Of(numbers[:3]).Hash }, 2},
		{"always", func(api.Measure) bool { return true }, 0},
		{"no numbers alone", func(m api.Measure) bool { return m.N == 0 }, 0},
		{"never", func(api.Measure) bool { return false }, 12},
	}
	for _, c := range cases {
		left, right := tree.Split(c.p)
		check(t, c.name, left, numbers[:c.before])
		check(t, c.name, right, numbers[c.before:])
	}
}

// FT2: an empty tree is two of them, whatever p is.
func TestSplitNone(t *testing.T) {
	for _, answer := range []bool{false, true} {
		left, right := Tree{}.Split(func(api.Measure) bool { return answer })
		check(t, "left", left, nil)
		check(t, "right", right, nil)
	}
}

// FT2, P1: whatever p is, both trees together have all numbers in their order.
func TestSplitByAnything(t *testing.T) {
	asked := 0
	predicates := map[string]func(api.Measure) bool{
		"even":         func(m api.Measure) bool { return m.N%2 == 0 },
		"odd":          func(m api.Measure) bool { return m.N%2 == 1 },
		"no numbers":   func(m api.Measure) bool { return m.N == 0 },
		"at most 5":    func(m api.Measure) bool { return m.N > 0 && m.N <= 5 },
		"sum below 0":  func(m api.Measure) bool { return m.Sum < 0 },
		"sum above 0":  func(m api.Measure) bool { return m.Sum > 0 },
		"hash":         func(m api.Measure) bool { return m.Hash%3 == 1 },
		"every second": func(api.Measure) bool { asked++; return asked%2 == 0 },
		"every third":  func(api.Measure) bool { asked++; return asked%3 == 0 },
	}
	for name, p := range predicates {
		for n := range 120 {
			numbers := samples.Many(n)
			left, right := Of(numbers).Split(p)
			before := left.Measure().N
			if before > n {
				t.Fatalf("%s: %d of %d numbers on the left", name, before, n)
			}
			checkHere(t, name, left, numbers[:before])
			checkHere(t, name, right, numbers[before:])
			checkHere(t, name, left.Join(right), numbers)
		}
	}
}

// FT3: the levels of small trees, of which there is no other way.
func TestDigitsByHand(t *testing.T) {
	wanted := [][][2]int{{}, {{1, 0}}, {{1, 1}}}
	for n, want := range wanted {
		for way, tree := range ways(samples.Rising(n)) {
			if got := tree.Digits(); !slices.Equal(got, want) {
				t.Errorf("%s: Digits of %d numbers: %v, want %v", way, n, got, want)
			}
		}
	}
}

// FT3: the levels while a tree grows and shrinks at either end.
func TestDigits(t *testing.T) {
	const n = 3000
	pushes := []func(Tree, int) Tree{Tree.PushLeft, Tree.PushRight}
	pops := []func(Tree) (int, Tree, bool){Tree.PopLeft, Tree.PopRight}
	for _, push := range pushes {
		for _, pop := range pops {
			var tree Tree
			for i := range n {
				checkDigits(t, "growing", tree, i)
				tree = push(tree, i)
			}
			for i := range n {
				checkDigits(t, "shrinking", tree, n-i)
				_, tree, _ = pop(tree)
			}
			checkDigits(t, "emptied", tree, 0)
		}
	}
}

// FT1: All stops where its range does, and begins anew in the next one.
func TestAllStops(t *testing.T) {
	numbers := samples.Rising(50)
	all := Of(numbers).All()
	for stop := range numbers {
		var got []int
		for x := range all {
			got = append(got, x)
			if x == stop {
				break
			}
		}
		if !slices.Equal(got, numbers[:stop+1]) {
			t.Errorf("All up to %d: %v", stop, got)
		}
	}
}

// P2: Of neither changes nor keeps its argument, nor the memory behind its length.
func TestOfKeepsArgument(t *testing.T) {
	whole := []int{4, -9, 2, 6, 77, 78}
	before := slices.Clone(whole)
	tree := Of(whole[:4])
	check(t, "pushed", tree.PushRight(1), []int{4, -9, 2, 6, 1})
	if !slices.Equal(whole, before) {
		t.Errorf("the argument is changed: %v", whole)
	}
	clear(whole)
	check(t, "the argument cleared", tree, []int{4, -9, 2, 6})
}

// P2: each call of Ints and of Digits returns memory of its own, and the tree keeps none of it.
func TestResultsAreNew(t *testing.T) {
	for _, numbers := range samples.Lists() {
		tree := Of(numbers)
		a, b := tree.Ints(), tree.Ints()
		clear(a[:cap(a)])
		_ = append(a[:0], 70, 71, 72)
		if !slices.Equal(b, numbers) {
			t.Errorf("the other numbers are changed: %v, want %v", b, numbers)
		}
		c, d := tree.Digits(), tree.Digits()
		want := slices.Clone(d)
		clear(c[:cap(c)])
		if !slices.Equal(d, want) {
			t.Errorf("the other digits are changed: %v, want %v", d, want)
		}
		check(t, "the tree", tree, numbers)
	}
}

// P2: no method changes its receiver or the other tree; what was made of one tree does not meet.
func TestPersistence(t *testing.T) {
	for n := range 60 {
		numbers := samples.Many(n)
		half := n / 2
		tree, other := Of(numbers), Of([]int{5, 3, 8})
		left, right := tree.Split(above(half))
		made := []struct {
			tree Tree
			want []int
		}{
			{tree, numbers},
			{other, []int{5, 3, 8}},
			{tree.PushLeft(1), slices.Concat([]int{1}, numbers)},
			{tree.PushLeft(2), slices.Concat([]int{2}, numbers)},
			{tree.PushRight(3), slices.Concat(numbers, []int{3})},
			{tree.PushRight(4), slices.Concat(numbers, []int{4})},
			{tree.Join(other), slices.Concat(numbers, []int{5, 3, 8})},
			{other.Join(tree), slices.Concat([]int{5, 3, 8}, numbers)},
			{left, numbers[:half]},
			{right, numbers[half:]},
			{left.PushRight(5), slices.Concat(numbers[:half], []int{5})},
			{right.PushLeft(6), slices.Concat([]int{6}, numbers[half:])},
			{right.Join(left), slices.Concat(numbers[half:], numbers[:half])},
		}
		for i, m := range made {
			check(t, fmt.Sprintf("%d of %d numbers", i, n), m.tree, m.want)
		}
		for i, m := range made {
			checkHere(t, fmt.Sprintf("%d of %d numbers, behind", i, n), m.tree, m.want)
		}
	}
}

// P1: a tree of many numbers needs no more stack than a small one, and no pass over it at every step.
func TestLong(t *testing.T) {
	defer debug.SetMaxStack(debug.SetMaxStack(1 << 20))
	const n = 1 << 18
	numbers := samples.Rising(n)
	tree := Of(numbers)
	checkHere(t, "long", tree, numbers)
	turned := tree
	for i := range 1 << 14 {
		at := i * 7919 % n
		left, right := turned.Split(above(at))
		turned = right.Join(left)
	}
	// However often it was turned, it goes on with the first number behind the last one.
	start := turned.Ints()[0]
	checkHere(t, "turned", turned, slices.Concat(numbers[start:], numbers[:start]))
	for i := range n / 2 {
		x, behind, has := tree.PopLeft()
		y, between, also := behind.PopRight()
		if x != i || y != n-1-i || !has || !also {
			t.Fatalf("the ends are %d %v and %d %v, want %d and %d", x, has, y, also, i, n-1-i)
		}
		tree = between
	}
	checkNone(t, "emptied", tree)
}

// P1, FT2: a tree of very many numbers, made of few, is measured and split.
func TestShared(t *testing.T) {
	tree := Of([]int{5})
	const doublings = 30
	want := mono.One(5)
	for range doublings {
		tree = tree.Join(tree)
		want = mono.Join(want, want)
	}
	if got := tree.Measure(); got != want {
		t.Errorf("Measure %v, want %v", got, want)
	}
	left, right := tree.Split(above(1000))
	check(t, "left", left, slices.Repeat([]int{5}, 1000))
	if got := right.Measure().N; got != 1<<doublings-1000 {
		t.Errorf("%d numbers on the right", got)
	}
	checkDigits(t, "right", right, 1<<doublings-1000)
}

func ExampleTree() {
	tree := Of([]int{5, 3, 8}).PushLeft(1).PushRight(9)
	fmt.Println(tree.Ints(), tree.Measure().Sum)
	// Output: [1 5 3 8 9] 26
}

func ExampleTree_Split() {
	tree := Of([]int{5, 3, 8, 1})
	left, right := tree.Split(func(m api.Measure) bool { return m.Most > 5 })
	fmt.Println(left.Ints(), right.Ints())
	// Output: [5 3] [8 1]
}

func ExampleTree_Digits() {
	fmt.Println(Of([]int{5, 3}).Digits(), Of([]int{5}).Digits())
	// Output: [[1 1]] [[1 0]]
}
