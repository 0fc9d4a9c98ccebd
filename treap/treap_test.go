package treap

import (
	"cmp"
	"fmt"
	"math/bits"
	"runtime/debug"
	"slices"
	"testing"

	"wattlework/api"
	"wattlework/samples"
	"wattlework/search"
)

// check fails the test unless the set has the wanted numbers, which are in ascending order, in their only tree.
func check(t *testing.T, name string, s Set, want []int) {
	t.Helper()
	if got := s.Ints(); !slices.Equal(got, want) || s.Len() != len(want) {
		t.Errorf("%s: Ints %v, Len %d, want %v", name, got, s.Len(), want)
	}
	if got, shape := s.Shape(), only(want).Shape(); !slices.Equal(got, shape) {
		t.Errorf("%s: Shape %v, want %v", name, got, shape)
	}
}

// only returns the only tree of the numbers: the one that comes about without any balance if the numbers are put in the
// order in which they outrank each other.
func only(numbers []int) *search.Tree {
	order := slices.Clone(numbers)
	slices.SortFunc(order, func(x, y int) int {
		return cmp.Or(cmp.Compare(api.Prio(y), api.Prio(x)), cmp.Compare(x, y))
	})
	var root *search.Tree
	for _, x := range order {
		at := &root
		for *at != nil {
			if x < (*at).Key {
				at = &(*at).Left
			} else {
				at = &(*at).Right
			}
		}
		*at = &search.Tree{Key: x, Mark: api.Prio(x)}
	}
	return root
}

// unmixed returns a number of the given priority: the steps of api.Prio, undone from the last one. As that one folds 64
// bits into 32, each upper half of the 64 gives another number.
func unmixed(priority, upper int) int {
	u := uint64(upper)<<32 | uint64(priority^upper)&0xffffffff
	u *= inverse(0xbf58476d1ce4e5b9)
	u ^= u>>29 ^ u>>58
	x := int(u * inverse(0x9e3779b97f4a7c15))
	if api.Prio(x) != priority {
		panic("not unmixed")
	}
	return x
}

// inverse returns the number by which an odd one has the product 1.
func inverse(odd uint64) uint64 {
	x := odd
	for range 6 {
		x *= 2 - odd*x
	}
	return x
}

// ranked returns numbers of the given priorities, in ascending order.
func ranked(priorities ...int) []int {
	var numbers []int
	for i, priority := range priorities {
		// Each number is in its own part of all ints.
		for upper := 0; len(numbers) == i; upper++ {
			x := unmixed(priority, upper)
			if part, _ := bits.Mul64(uint64(x)^1<<63, uint64(len(priorities))); part == uint64(i) {
				numbers = append(numbers, x)
			}
		}
	}
	return numbers
}

// equals returns n numbers of the same priority, in ascending order.
func equals(priority, n int) []int {
	var numbers []int
	for upper := range n {
		numbers = append(numbers, unmixed(priority, upper))
	}
	slices.Sort(numbers)
	return numbers
}

// with returns the set that comes about as the numbers are put one by one.
func with(numbers ...int) Set {
	var s Set
	for _, x := range numbers {
		s = s.Put(x)
	}
	return s
}

// parts returns two lists: the numbers at even indices, and those at odd ones.
func parts(numbers []int) ([]int, []int) {
	var evens, odds []int
	for i, x := range numbers {
		if i%2 == 0 {
			evens = append(evens, x)
		} else {
			odds = append(odds, x)
		}
	}
	return evens, odds
}

// some returns those of the numbers whose digits are 1 in chosen in binary.
func some(numbers []int, chosen int) []int {
	var l []int
	for i, x := range numbers {
		if chosen>>i%2 == 1 {
			l = append(l, x)
		}
	}
	return l
}

// permutations calls f with every order of the numbers.
func permutations(numbers []int, f func(order []int)) {
	var walk func(fixed int)
	walk = func(fixed int) {
		if fixed == len(numbers) {
			f(numbers)
		}
		for i := fixed; i < len(numbers); i++ {
			numbers[fixed], numbers[i] = numbers[i], numbers[fixed]
			walk(fixed + 1)
			numbers[fixed], numbers[i] = numbers[i], numbers[fixed]
		}
	}
	walk(0)
}

// TP2, TP3: trees of numbers with chosen priorities, worked by hand. The nodes have the indices of the numbers as keys.
func TestByHand(t *testing.T) {
	const most = 1<<32 - 1
	for _, test := range []struct {
		priorities []int
		want       string
	}{
		{[]int{7}, "[{0 -1 -1 7}]"},
		{[]int{1, 2}, "[{1 1 -1 2} {0 -1 -1 1}]"},
		{[]int{2, 1}, "[{0 -1 1 2} {1 -1 -1 1}]"},
		{[]int{2, 2}, "[{0 -1 1 2} {1 -1 -1 2}]"},
		{[]int{0, 0}, "[{0 -1 1 0} {1 -1 -1 0}]"},
		{[]int{most, most}, "[{0 -1 1 4294967295} {1 -1 -1 4294967295}]"},
		{[]int{0, most}, "[{1 1 -1 4294967295} {0 -1 -1 0}]"},
		{[]int{1 << 31, 1<<31 - 1}, "[{0 -1 1 2147483648} {1 -1 -1 2147483647}]"},
		{[]int{1<<31 - 1, 1 << 31}, "[{1 1 -1 2147483648} {0 -1 -1 2147483647}]"},
		{[]int{1, 2, 3}, "[{2 1 -1 3} {1 2 -1 2} {0 -1 -1 1}]"},
		{[]int{1, 3, 2}, "[{1 1 2 3} {0 -1 -1 1} {2 -1 -1 2}]"},
		{[]int{2, 1, 3}, "[{2 1 -1 3} {0 -1 2 2} {1 -1 -1 1}]"},
		{[]int{2, 3, 1}, "[{1 1 2 3} {0 -1 -1 2} {2 -1 -1 1}]"},
		{[]int{3, 1, 2}, "[{0 -1 1 3} {2 2 -1 2} {1 -1 -1 1}]"},
		{[]int{3, 2, 1}, "[{0 -1 1 3} {1 -1 2 2} {2 -1 -1 1}]"},
		{[]int{2, 2, 2}, "[{0 -1 1 2} {1 -1 2 2} {2 -1 -1 2}]"},
		{[]int{1, 2, 2}, "[{1 1 2 2} {0 -1 -1 1} {2 -1 -1 2}]"},
		{[]int{2, 1, 2}, "[{0 -1 1 2} {2 2 -1 2} {1 -1 -1 1}]"},
		{[]int{2, 2, 1}, "[{0 -1 1 2} {1 -1 2 2} {2 -1 -1 1}]"},
		// What has the same priority need not be on one path: the 1s are on both sides of a 2.
		{[]int{1, 2, 1}, "[{1 1 2 2} {0 -1 -1 1} {2 -1 -1 1}]"},
		{[]int{1, 1, 2, 1, 1}, "[{2 1 3 2} {0 -1 2 1} {1 -1 -1 1} {3 -1 4 1} {4 -1 -1 1}]"},
	} {
		numbers := ranked(test.priorities...)
		permutations(slices.Clone(numbers), func(order []int) {
			evens, odds := parts(order)
			for way, s := range map[string]Set{
				"Of":    Of(order),
				"Put":   with(order...),
				"Drop":  with(order...).Put(5).Put(-5).Drop(5).Drop(-5),
				"Union": Of(evens).Union(Of(odds)),
			} {
				got := s.Shape()
				for i := range got {
					got[i].Key = slices.Index(numbers, got[i].Key)
				}
				if fmt.Sprint(got) != test.want {
					t.Errorf("%s of priorities %v: Shape %v, want %v", way, test.priorities, got, test.want)
				}
			}
		})
	}
}

// TP1, TP2, TP3: the numbers of every list have one tree, however their set came about.
func TestOneShape(t *testing.T) {
	lists := samples.Lists()
	for n := range 100 {
		lists = append(lists, samples.Rising(n), samples.Many(n), equals(n, n))
	}
	for _, l := range lists {
		turned := slices.Clone(l)
		slices.Reverse(turned)
		third := len(l) / 3
		dropped := Of(slices.Concat(l, []int{api.Least, -60, 3, 12, 77, api.Greatest}))
		for _, x := range []int{12, api.Greatest, -60, 3, api.Least, 77} {
			if !slices.Contains(l, x) {
				dropped = dropped.Drop(x)
			}
		}
		for way, s := range map[string]Set{
			"Of":           Of(l),
			"turned":       Of(turned),
			"Put":          with(l...),
			"backward":     with(turned...),
			"Drop":         dropped,
			"parts":        Of(l[:third]).Union(with(l[third:]...)),
			"turned parts": Of(l[third:]).Union(with(l[:third]...)),
		} {
			check(t, way, s, search.Distinct(l))
		}
	}
}

// TP1, TP2, TP3: all orders of 5 priorities, and all ways in which some of 3 are those of 5 numbers.
func TestAllPriorities(t *testing.T) {
	permutations([]int{0, 1, 2, 3, 4}, func(order []int) {
		testParts(t, ranked(order...))
	})
	for way := range 3 * 3 * 3 * 3 * 3 {
		var priorities []int
		for range 5 {
			priorities = append(priorities, way%3)
			way /= 3
		}
		testParts(t, ranked(priorities...))
	}
}

// testParts tests what is made of all sets of some of the numbers, and of all pairs of them.
func testParts(t *testing.T, numbers []int) {
	t.Helper()
	var sets []Set
	var shapes [][]api.Node
	for chosen := range 1 << len(numbers) {
		s := Of(some(numbers, chosen))
		check(t, "Of", s, some(numbers, chosen))
		sets, shapes = append(sets, s), append(shapes, s.Shape())
	}
	// Each set has only one tree, so those of the first ones are what is to be made of others.
	same := func(name string, s Set, chosen int) {
		t.Helper()
		if got := s.Shape(); !slices.Equal(got, shapes[chosen]) || s.Len() != bits.OnesCount(uint(chosen)) {
			t.Errorf("%s: Shape %v, Len %d, want %v", name, got, s.Len(), shapes[chosen])
		}
	}
	for one, s := range sets {
		for two, other := range sets {
			same(fmt.Sprintf("%v and %v", shapes[one], shapes[two]), s.Union(other), one|two)
		}
		for i, x := range numbers {
			same(fmt.Sprintf("%v with %d", shapes[one], x), s.Put(x), one|1<<i)
			same(fmt.Sprintf("%v without %d", shapes[one], x), s.Drop(x), one&^(1<<i))
		}
	}
	for chosen, s := range sets {
		same("afterwards", s, chosen)
	}
}

// TP3: the union of all pairs of several lists, which have the edges of ints.
func TestUnion(t *testing.T) {
	lists := samples.Lists()
	for n := range 30 {
		lists = append(lists, samples.Rising(n), equals(9, n))
	}
	for _, numbers := range lists {
		for _, others := range lists {
			s, other := Of(numbers), with(others...)
			shapes := [][]api.Node{s.Shape(), other.Shape()}
			name := fmt.Sprint(numbers, " and ", others)
			check(t, name, s.Union(other), search.Distinct(slices.Concat(numbers, others)))
			if !slices.Equal(s.Shape(), shapes[0]) || !slices.Equal(other.Shape(), shapes[1]) {
				t.Errorf("%s: %v have become %v and %v", name, shapes, s.Shape(), other.Shape())
			}
		}
	}
}

// TP3: a set and the zero value, and a set and what was made of it.
func TestUnionItself(t *testing.T) {
	var none Set
	check(t, "nothing", none.Union(none), nil)
	for _, l := range samples.Lists() {
		numbers := search.Distinct(l)
		s := Of(l)
		check(t, "with nothing", s.Union(none), numbers)
		check(t, "nothing with it", none.Union(s), numbers)
		check(t, "with itself", s.Union(s), numbers)
		check(t, "with more", s.Union(s.Put(6)), search.Distinct(append(slices.Clone(numbers), 6)))
		check(t, "with less", s.Union(s.Drop(5).Drop(0)), numbers)
		check(t, "emptied", s.Drop(5).Union(s.Drop(6)).Union(s), numbers)
		check(t, "the set", s, numbers)
	}
}

// TP1, TP2, TP3: a long line of sets, of which each is made from one or two earlier ones, and all of which stay as they
// were.
func TestLongLine(t *testing.T) {
	const steps = 3000
	mixed := 1
	draw := func(n int) int {
		mixed = mixed * 48271 % (1<<31 - 1)
		return mixed / 8 % n
	}
	// Half of the numbers have one of few priorities.
	all := samples.Rising(100)
	for i := range 100 {
		all = append(all, unmixed(i%7<<29, i))
	}
	var none Set
	line, wants := []Set{none}, [][]int{nil}
	for range steps {
		at := len(line) - 1
		x := all[draw(len(all))]
		var s Set
		var want []int
		switch draw(4) {
		case 0:
			earlier := at - draw(min(len(line), 50))
			s, want = line[at].Union(line[earlier]), search.Distinct(slices.Concat(wants[at], wants[earlier]))
		case 1:
			s, want = line[at].Put(x), search.Distinct(append(slices.Clone(wants[at]), x))
		default:
			s = line[at].Drop(x)
			want = slices.DeleteFunc(slices.Clone(wants[at]), func(y int) bool { return y == x })
			if draw(20) == 0 {
				// Otherwise, few numbers would be left.
				part := some(all, draw(1<<30)*draw(1<<30))
				s, want = s.Union(Of(part)), search.Distinct(slices.Concat(want, part))
			}
		}
		line, wants = append(line, s), append(wants, want)
	}
	for i, s := range line {
		check(t, fmt.Sprint("step ", i), s, wants[i])
	}
}

// checkPath fails the test unless the numbers, which are in ascending order, are on one path to the right.
func checkPath(t *testing.T, name string, s Set, numbers []int) {
	t.Helper()
	if !slices.Equal(s.Ints(), numbers) || s.Len() != len(numbers) {
		t.Errorf("%s: wrong numbers, Len %d, want %d", name, s.Len(), len(numbers))
	}
	shape := s.Shape()
	if len(shape) != len(numbers) {
		t.Fatalf("%s: %d nodes, want %d", name, len(shape), len(numbers))
	}
	for i, node := range shape {
		want := api.Node{Key: numbers[i], Left: -1, Right: i + 1, Mark: api.Prio(numbers[i])}
		if i == len(numbers)-1 {
			want.Right = -1
		}
		if node != want {
			t.Fatalf("%s: node %d is %v, want %v", name, i, node, want)
		}
	}
}

// P1: many numbers of the same priority, which are all on one path, need no more stack than others.
func TestDeep(t *testing.T) {
	defer debug.SetMaxStack(debug.SetMaxStack(1 << 20))
	const n = 1 << 17
	numbers := equals(1<<31, n)
	s := Of(numbers)
	checkPath(t, "Of", s, numbers)
	for _, i := range []int{0, 1, n / 2, n - 2, n - 1} {
		x, rest := numbers[i], slices.Delete(slices.Clone(numbers), i, i+1)
		dropped := s.Drop(x)
		checkPath(t, "dropped", dropped, rest)
		checkPath(t, "put", dropped.Put(x), numbers)
		if !s.Has(x) || dropped.Has(x) {
			t.Errorf("Has %d is %v and %v", x, s.Has(x), dropped.Has(x))
		}
	}
	evens, odds := parts(numbers)
	checkPath(t, "evens and odds", Of(evens).Union(Of(odds)), numbers)
	checkPath(t, "low and high", Of(numbers[:n/2]).Union(Of(numbers[n/2:])), numbers)
	checkPath(t, "high and low", Of(numbers[n/2:]).Union(Of(numbers[:n/2])), numbers)
	checkPath(t, "overlapping", Of(numbers[:n/3*2]).Union(Of(numbers[n/3:])), numbers)
	checkPath(t, "twice", s.Union(s), numbers)
	checkPath(t, "the set", s, numbers)
}

// slopes returns lists of n priorities that make one path of the tree of numbers in ascending order: to the left, to the
// right, to both by turns, and to one of both in its first half and to the other one in its second half.
func slopes(n int) map[string][]int {
	all := map[string][]int{}
	for i := range n {
		back := n - 1 - i
		all["left"] = append(all["left"], i)
		all["right"] = append(all["right"], back)
		all["turns"] = append(all["turns"], max(2*i, 2*back+1))
		if i < n/2 {
			all["left, right"] = append(all["left, right"], n/2-1-i)
			all["right, left"] = append(all["right, left"], back)
		} else {
			all["left, right"] = append(all["left, right"], i)
			all["right, left"] = append(all["right, left"], i-n/2)
		}
	}
	return all
}

// P1: nor do other trees of one path. Nor is one of them walked through for each number of another one, which would need
// far more memory.
func TestSlopes(t *testing.T) {
	defer debug.SetMaxStack(debug.SetMaxStack(1 << 16))
	const n = 1 << 10
	for name, priorities := range slopes(n) {
		numbers := ranked(priorities...)
		evens, odds := parts(numbers)
		whole := Of(numbers)
		check(t, name, whole, numbers)
		for i, node := range whole.Shape() {
			if below := max(node.Left, node.Right); below != i+1 && i < n-1 {
				t.Fatalf("%s: node %d is above %d", name, i, below)
			}
		}
		for _, i := range []int{0, 1, n/2 - 1, n / 2, n - 2, n - 1} {
			dropped := whole.Drop(numbers[i])
			check(t, name+" without one", dropped, slices.Delete(slices.Clone(numbers), i, i+1))
			check(t, name+" with it", dropped.Put(numbers[i]), numbers)
		}
		for way, pair := range map[string][2]Set{
			"parts":       {Of(evens), Of(odds)},
			"low, high":   {Of(numbers[:n/2]), Of(numbers[n/2:])},
			"high, low":   {Of(numbers[n/2:]), Of(numbers[:n/2])},
			"overlapping": {Of(numbers[:n/3*2]), Of(numbers[n/3:])},
			"one":         {whole.Drop(numbers[n/2]), Of(numbers[n/2 : n/2+1])},
			"with it":     {whole, whole},
		} {
			check(t, name+", "+way, pair[0].Union(pair[1]), numbers)
			if times := testing.AllocsPerRun(1, func() { pair[0].Union(pair[1]) }); times > 2*n {
				t.Errorf("%s, %s: memory is needed %v times for %d numbers", name, way, times, n)
			}
		}
	}
}

// made returns how many trees there are in a set that none of the others has.
func made(s Set, others ...Set) int {
	old := map[*search.Tree]bool{}
	var walk func(tree *search.Tree, f func(tree *search.Tree) bool)
	walk = func(tree *search.Tree, f func(tree *search.Tree) bool) {
		if tree != nil && f(tree) {
			walk(tree.Left, f)
			walk(tree.Right, f)
		}
	}
	for _, other := range others {
		walk(other.root, func(tree *search.Tree) bool {
			old[tree] = true
			return true
		})
	}
	n := 0
	walk(s.root, func(tree *search.Tree) bool {
		if old[tree] {
			return false
		}
		n++
		return true
	})
	return n
}

// P2: sets share all trees that are not above what is put or dropped, or between numbers of the other one.
func TestSharing(t *testing.T) {
	const n = 1 << 14
	whole := Of(samples.Rising(n))
	for x := 0; x < n; x += 97 {
		dropped := whole.Drop(x)
		if one, two := made(dropped, whole), made(dropped.Put(x), dropped); one > 60 || two > 60 {
			t.Errorf("%d and %d trees are made to drop %d and to put it", one, two, x)
		}
		if same := made(whole.Put(x), whole); same > 0 {
			t.Errorf("%d trees are made to put %d again", same, x)
		}
	}
	far := []int{-n, 5, n / 2, n - 3, 3 * n}
	for _, test := range []struct {
		name       string
		one, other Set
		most       int
	}{
		{"none", whole, Set{}, 0},
		{"beside each other", Of(samples.Rising(n)[:n/2]), Of(samples.Rising(n)[n/2:]), 60},
		{"few", whole, Of(far), 200},
		{"overlapping", Of(samples.Rising(n)[:n/2+10]), Of(samples.Rising(n)[n/2:]), 100},
	} {
		if got := made(test.one.Union(test.other), test.one, test.other); got > test.most {
			t.Errorf("%s: %d trees are made", test.name, got)
		}
		if got := made(test.other.Union(test.one), test.one, test.other); got > test.most {
			t.Errorf("%s, the other way round: %d trees are made", test.name, got)
		}
	}
}

// P2: results that share a tree share no memory that can be changed.
func TestResultsAreNew(t *testing.T) {
	s, other := Of(samples.Rising(40)), Of([]int{-4, 17, 60})
	both := s.Union(other)
	for _, made := range []Set{s, other, both, both.Drop(17), s.Put(-4)} {
		clear(made.Ints())
		clear(made.Shape())
	}
	check(t, "one", s, samples.Rising(40))
	check(t, "other", other, []int{-4, 17, 60})
	check(t, "both", both, slices.Concat([]int{-4}, samples.Rising(40), []int{60}))
}

// P1: large sets need no more stack than small ones, and no pass over all numbers at every step.
func TestLarge(t *testing.T) {
	defer debug.SetMaxStack(debug.SetMaxStack(1 << 20))
	const n = 1 << 17
	whole := samples.Rising(n)
	evens, odds := parts(whole)
	check(t, "evens and odds", Of(evens).Union(Of(odds)), whole)
	var up, down, blocks Set
	for i := range n {
		up, down = up.Union(Of([]int{i})), Of([]int{n - 1 - i}).Union(down)
	}
	for i := 0; i < n; i += 64 {
		// As 7919 and n have no common divisor, every block comes once.
		from := i * 7919 % n
		blocks = blocks.Union(Of(whole[from : from+64]))
	}
	for name, s := range map[string]Set{"up": up, "down": down, "blocks": blocks} {
		check(t, name, s, whole)
	}
}

func ExampleSet() {
	s := Of([]int{5, 3, 8, 3})
	t := s.Put(4)
	fmt.Println(s.Ints(), t.Ints(), t.Drop(5).Ints(), s.Has(4), t.Has(4), t.Len())
	fmt.Println(s.Union(Of([]int{1, 5})).Ints())
	// Output:
	// [3 5 8] [3 4 5 8] [3 4 8] false true 4
	// [1 3 5 8]
}

func ExampleSet_Shape() {
	s := Of([]int{5, 3, 8})
	for _, node := range s.Shape() {
		fmt.Println(node.Key, node.Left, node.Right, node.Mark == api.Prio(node.Key))
	}
	fmt.Println(api.Prio(5), api.Prio(3), api.Prio(8))
	// Output:
	// 5 1 2 true
	// 3 -1 -1 true
	// 8 -1 -1 true
	// 3338707622 2489701863 2969220842
}
