package wbt

import (
	"fmt"
	"runtime/debug"
	"slices"
	"testing"

	"wattlework/api"
	"wattlework/samples"
	"wattlework/search"
)

// check fails the test unless the set has the wanted numbers, which are in ascending order, in a balanced tree.
func check(t *testing.T, name string, s Set, want []int) {
	t.Helper()
	if got := s.Ints(); !slices.Equal(got, want) || s.Len() != len(want) {
		t.Errorf("%s: Ints %v, Len %d, want %v", name, got, s.Len(), want)
	}
	if _, balanced := measured(s.root); !balanced {
		t.Errorf("%s: Shape %v", name, s.Shape())
	}
}

// measured returns how many numbers the tree has, and whether all marks and sizes in it are right.
func measured(tree *search.Tree) (int, bool) {
	if tree == nil {
		return 0, true
	}
	left, one := measured(tree.Left)
	right, two := measured(tree.Right)
	all := left + 1 + right
	return all, one && two && tree.Mark == all && fits(left, right)
}

// fits reports whether trees of two sizes may be beside each other.
func fits(a, b int) bool {
	return a+1 <= 3*(b+1) && b+1 <= 3*(a+1)
}

// trees calls f with every balanced tree of numbers that are in ascending order.
func trees(numbers []int, f func(*search.Tree)) {
	if len(numbers) == 0 {
		f(nil)
	}
	for i, x := range numbers {
		if !fits(i, len(numbers)-1-i) {
			continue
		}
		trees(numbers[:i], func(left *search.Tree) {
			trees(numbers[i+1:], func(right *search.Tree) {
				f(&search.Tree{Key: x, Mark: len(numbers), Left: left, Right: right})
			})
		})
	}
}

// lopsided returns the tree of the numbers from low to high - 1 whose sides are as uneven as may be. The heavier sides
// are told by the digits of way in binary, the last one first: 0 for left and 1 for right.
func lopsided(low, high, way int) *search.Tree {
	if low == high {
		return nil
	}
	light := 0
	for !fits(light, high-low-1-light) {
		light++
	}
	x := low + light
	if way%2 == 0 {
		x = high - 1 - light
	}
	// What is below on the lighter side is uneven the other way round.
	left, right := lopsided(low, x, way/2), lopsided(x+1, high, ^way/2)
	return &search.Tree{Key: x, Mark: high - low, Left: left, Right: right}
}

// with returns the set that comes about as the numbers are put one by one.
func with(numbers ...int) Set {
	var s Set
	for _, x := range numbers {
		s = s.Put(x)
	}
	return s
}

// chosenOf returns those of the numbers for which f is true.
func chosenOf(numbers []int, f func(x int) bool) []int {
	return slices.DeleteFunc(slices.Clone(numbers), func(x int) bool { return !f(x) })
}

// WB2: each way in which one side gets too heavy, worked by hand.
func TestTurns(t *testing.T) {
	for _, test := range []struct {
		name string
		set  Set
		want string
	}{
		{"one", with(1), "[{1 -1 -1 1}]"},
		{"three below each other", with(1, 2, 3), "[{1 -1 1 3} {2 -1 2 2} {3 -1 -1 1}]"},
		{"right outer, put", with(1, 2, 3, 4), "[{2 1 2 4} {1 -1 -1 1} {3 -1 3 2} {4 -1 -1 1}]"},
		{"left outer, put", with(4, 3, 2, 1), "[{3 1 3 4} {2 2 -1 2} {1 -1 -1 1} {4 -1 -1 1}]"},
		{"right inner, put", with(1, 4, 3, 2), "[{3 1 3 4} {1 -1 2 2} {2 -1 -1 1} {4 -1 -1 1}]"},
		{"left inner, put", with(4, 1, 2, 3), "[{2 1 2 4} {1 -1 -1 1} {4 3 -1 2} {3 -1 -1 1}]"},
		{"right, dropped", with(2, 1, 4, 3, 5).Drop(1), "[{4 1 3 4} {2 -1 2 2} {3 -1 -1 1} {5 -1 -1 1}]"},
		{"left, dropped", with(4, 2, 5, 1, 3).Drop(5), "[{2 1 2 4} {1 -1 -1 1} {4 3 -1 2} {3 -1 -1 1}]"},
		{"root, dropped", Of([]int{1, 2, 3, 4, 5}).Drop(3), "[{4 1 3 4} {2 2 -1 2} {1 -1 -1 1} {5 -1 -1 1}]"},
	} {
		if got := fmt.Sprint(test.set.Shape()); got != test.want {
			t.Errorf("%s: Shape %v, want %v", test.name, got, test.want)
		}
	}
}

// WB2, WB3: all pairs of trees of up to 8 numbers, beside each other.
func TestBesideEachOther(t *testing.T) {
	numbers := samples.Rising(17)
	for n := range 9 {
		trees(numbers[:n], func(left *search.Tree) {
			for m := n + 1; m <= n+9; m++ {
				trees(numbers[n+1:m], func(right *search.Tree) {
					testBeside(t, left, right, n, m)
				})
			}
		})
	}
}

// WB2, WB3: and pairs of larger ones, which are as uneven as may be.
func TestUneven(t *testing.T) {
	ways := []int{0, -1, 0x5555, 0xaaaa, 0x3333}
	for n := 0; n < 200; n = n*6/5 + 1 {
		for m := n + 1; m < n+200; m += (m-n)/5 + 1 {
			for _, one := range ways {
				for _, two := range ways {
					testBeside(t, lopsided(0, n, one), lopsided(n+1, m, two), n, m)
				}
			}
		}
	}
}

// testBeside tests that trees of the numbers less than n and of those from n + 1 to m - 1 can be put together and split
// again, with n and without.
func testBeside(t *testing.T, left, right *search.Tree, n, m int) {
	t.Helper()
	whole := samples.Rising(m)
	low, high := Set{root: left}, Set{root: right}
	name := fmt.Sprint(low.Shape(), " beside ", high.Shape())
	linked, joined := Set{root: link(n, left, right)}, low.Join(high)
	check(t, name+", linked", linked, whole)
	check(t, name+", joined", joined, slices.Delete(slices.Clone(whole), n, n+1))
	for _, s := range []Set{linked, joined} {
		one, has, two := s.Split(n)
		if has != (s.Len() == m) {
			t.Errorf("%s: Split tells %v of %d", name, has, n)
		}
		check(t, name+", first of Split", one, whole[:n])
		check(t, name+", second of Split", two, whole[n+1:])
	}
}

// WB3: every split of many trees.
func TestSplit(t *testing.T) {
	test := func(s Set) {
		numbers, shape := s.Ints(), s.Shape()
		for _, x := range samples.Near(numbers) {
			name := fmt.Sprint(shape, " at ", x)
			one, has, two := s.Split(x)
			check(t, name, one, chosenOf(numbers, func(y int) bool { return y < x }))
			check(t, name, two, chosenOf(numbers, func(y int) bool { return y > x }))
			if has != slices.Contains(numbers, x) {
				t.Errorf("%s: Split tells %v", name, has)
			}
			// All that is made of both leaves them, and the whole, as they are.
			before := [][]api.Node{one.Shape(), two.Shape()}
			check(t, name, one.Put(x).Join(two), search.Distinct(append(s.Ints(), x)))
			if !slices.Equal(one.Shape(), before[0]) || !slices.Equal(two.Shape(), before[1]) {
				t.Errorf("%s: %v have become %v and %v", name, before, one.Shape(), two.Shape())
			}
		}
		if !slices.Equal(s.Shape(), shape) {
			t.Errorf("%v has become %v", shape, s.Shape())
		}
	}
	for n := range 9 {
		trees([]int{api.Least, -3, 0, 4, 5, 6, 8, api.Greatest}[:n], func(tree *search.Tree) {
			test(Set{root: tree})
		})
	}
	for _, numbers := range samples.Lists() {
		test(Of(numbers))
	}
}

// WB3: what two sets make, for all pairs of sets of some of 7 numbers.
func TestTwoSets(t *testing.T) {
	const most = 7
	var all []Set
	for bits := range 1 << most {
		all = append(all, Of(chosenOf(samples.Rising(most), func(x int) bool { return bits>>x%2 == 1 })))
	}
	for _, s := range all {
		for _, other := range all {
			testTwo(t, s, other)
		}
	}
}

// WB3: and for all pairs of several lists, which have the edges of ints.
func TestTwoLists(t *testing.T) {
	lists := samples.Lists()
	for n := range 40 {
		lists = append(lists, samples.Rising(n))
	}
	for _, numbers := range lists {
		for _, others := range lists {
			// A set that is filled number by number has another tree than one that is made at once.
			testTwo(t, Of(numbers), with(others...))
		}
	}
}

// WB3: and for trees that are as uneven as may be, with several parts of their numbers.
func TestTwoUneven(t *testing.T) {
	for _, way := range []int{0, -1, 0x5555, 0xaaaa, 0x3333} {
		for n := 0; n < 300; n = n*5/4 + 1 {
			s := Set{root: lopsided(0, n, way)}
			for _, part := range []func(x int) bool{
				func(x int) bool { return x%2 == 0 },
				func(x int) bool { return x%7 == 3 },
				func(x int) bool { return x%7 != 3 },
				func(x int) bool { return x/20%2 == 0 },
				func(x int) bool { return x < n/4 },
				func(x int) bool { return x > n-3 },
			} {
				other := Of(chosenOf(samples.Rising(n+5), part))
				testTwo(t, s, other)
				testTwo(t, other, s)
			}
		}
	}
}

// testTwo tests what two sets make, and that it leaves both as they are.
func testTwo(t *testing.T, s, other Set) {
	t.Helper()
	numbers, others := s.Ints(), other.Ints()
	shapes := [][]api.Node{s.Shape(), other.Shape()}
	name := fmt.Sprint(numbers, " and ", others)
	union := search.Distinct(slices.Concat(numbers, others))
	in := func(x int) bool {
		_, is := slices.BinarySearch(others, x)
		return is
	}
	out := func(x int) bool { return !in(x) }
	check(t, name+", Union", s.Union(other), union)
	check(t, name+", Join", s.Join(other), union)
	check(t, name+", Inter", s.Inter(other), chosenOf(numbers, in))
	check(t, name+", Diff", s.Diff(other), chosenOf(numbers, out))
	if !slices.Equal(s.Shape(), shapes[0]) || !slices.Equal(other.Shape(), shapes[1]) {
		t.Errorf("%s: %v have become %v and %v", name, shapes, s.Shape(), other.Shape())
	}
}

// WB3: a set whose numbers are not all greater is joined nevertheless.
func TestJoin(t *testing.T) {
	for _, test := range []struct{ one, two, want []int }{
		{nil, nil, nil},
		{nil, []int{4}, []int{4}},
		{[]int{4}, nil, []int{4}},
		{[]int{1, 2}, []int{3, 4}, []int{1, 2, 3, 4}},
		{[]int{1, 2}, []int{2, 3}, []int{1, 2, 3}},
		{[]int{1, 3}, []int{2, 4}, []int{1, 2, 3, 4}},
		{[]int{3, 4}, []int{1, 2}, []int{1, 2, 3, 4}},
		{[]int{1, 2}, []int{1, 2}, []int{1, 2}},
		{[]int{1, 9}, []int{4}, []int{1, 4, 9}},
		{[]int{4}, []int{1, 9}, []int{1, 4, 9}},
		{[]int{api.Least}, []int{api.Greatest}, []int{api.Least, api.Greatest}},
		{[]int{api.Greatest}, []int{api.Least}, []int{api.Least, api.Greatest}},
		{[]int{api.Greatest}, []int{api.Greatest}, []int{api.Greatest}},
	} {
		check(t, fmt.Sprint(test.one, " and ", test.two), Of(test.one).Join(Of(test.two)), test.want)
	}
}

// WB3: the zero value is an empty set like any other.
func TestZeroValue(t *testing.T) {
	var none Set
	some := with(3, 5)
	for name, s := range map[string]Set{"zero": none, "of none": Of(nil), "emptied": some.Drop(5).Drop(3)} {
		one, has, two := s.Split(4)
		if has || s.Rank(api.Greatest) != 0 {
			t.Errorf("%s: Split tells %v, Rank %d", name, has, s.Rank(api.Greatest))
		}
		for _, i := range []int{-1, 0, 1} {
			if x, has := s.At(i); x != 0 || has {
				t.Errorf("%s: At %d is %d, %v", name, i, x, has)
			}
		}
		for _, made := range []Set{one, two, s.Union(none), s.Join(s), s.Inter(some), some.Inter(s), s.Diff(some)} {
			check(t, name, made, nil)
		}
		for _, made := range []Set{s.Union(some), some.Union(s), s.Join(some), some.Join(s), some.Diff(s)} {
			check(t, name, made, []int{3, 5})
		}
	}
}

// WB3: how many numbers are less, and which one is at an index, in many trees.
func TestRankAt(t *testing.T) {
	test := func(s Set) {
		numbers := s.Ints()
		n := len(numbers)
		for _, x := range samples.Near(numbers) {
			if got, want := s.Rank(x), len(chosenOf(numbers, func(y int) bool { return y < x })); got != want {
				t.Errorf("Rank %d is %d, want %d in %v", x, got, want, s.Shape())
			}
		}
		for i, want := range numbers {
			if x, has := s.At(i); x != want || !has {
				t.Errorf("At %d is %d, %v in %v", i, x, has, s.Shape())
			}
		}
		for _, i := range samples.Outside(n) {
			if x, has := s.At(i); x != 0 || has {
				t.Errorf("At %d is %d, %v in %v", i, x, has, s.Shape())
			}
		}
	}
	for n := range 9 {
		trees([]int{api.Least, -3, 0, 4, 5, 6, 8, api.Greatest}[:n], func(tree *search.Tree) {
			test(Set{root: tree})
		})
	}
	for _, numbers := range samples.Lists() {
		test(Of(numbers))
		test(with(numbers...))
	}
}

// P2: results that share a tree share no memory that can be changed.
func TestResultsAreNew(t *testing.T) {
	s := Of(samples.Rising(40))
	one, _, two := s.Split(17)
	for _, made := range []Set{one, two, one.Join(two), s.Union(one), s.Inter(two), s.Diff(one)} {
		clear(made.Ints())
		clear(made.Shape())
	}
	check(t, "whole", s, samples.Rising(40))
	check(t, "first", one, samples.Rising(17))
	check(t, "both", one.Put(17).Union(two), samples.Rising(40))
}

// WB1, WB2, WB3: a long line of sets, of which each is made from two earlier ones, and all of which stay as they were.
func TestLongLine(t *testing.T) {
	const steps, numbers = 4000, 300
	mixed := 1
	draw := func(n int) int {
		mixed = mixed * 48271 % (1<<31 - 1)
		return mixed / 8 % n
	}
	whole := samples.Rising(numbers)
	line, wants := []Set{Of(whole)}, [][]int{whole}
	for range steps {
		one := len(line) - 1
		two := len(line) - 1 - draw(min(len(line), 9))
		if draw(2) == 0 {
			// A new set as the second one, or all of them would soon have the same numbers.
			part, from := 1+draw(4), draw(numbers)
			want := chosenOf(whole, func(x int) bool { return x >= from && x%part == 0 })
			line, wants, two = append(line, Of(want)), append(wants, want), len(line)
		}
		s, want := next(line[one], line[two], draw(6), draw(numbers), wants[one], wants[two])
		line, wants = append(line, s), append(wants, want)
	}
	for i, s := range line {
		check(t, fmt.Sprint("step ", i), s, wants[i])
	}
}

// next returns the set that a step makes of two sets, or of the first one and x, and the numbers that it should have.
func next(s, other Set, step, x int, numbers, others []int) (Set, []int) {
	in := func(y int) bool { return slices.Contains(others, y) }
	switch step {
	case 0:
		return s.Union(other), search.Distinct(slices.Concat(numbers, others))
	case 1:
		return s.Inter(other), chosenOf(numbers, in)
	case 2:
		return s.Diff(other), chosenOf(numbers, func(y int) bool { return !in(y) })
	case 3:
		low, _, _ := s.Split(x)
		_, _, high := other.Split(x)
		first := chosenOf(numbers, func(y int) bool { return y < x })
		return low.Join(high), slices.Concat(first, chosenOf(others, func(y int) bool { return y > x }))
	case 4:
		return s.Drop(x), chosenOf(numbers, func(y int) bool { return y != x })
	}
	return s.Put(x), search.Distinct(append(slices.Clone(numbers), x))
}

// P1: large sets need no more stack than small ones, and no pass over all numbers at every step.
func TestLarge(t *testing.T) {
	defer debug.SetMaxStack(debug.SetMaxStack(1 << 20))
	const n = 1 << 17
	whole := samples.Rising(n)
	all := Of(whole)
	even := func(x int) bool { return x%2 == 0 }
	evens := Of(chosenOf(whole, even))
	odds := all.Diff(evens)
	check(t, "odds", odds, chosenOf(whole, func(x int) bool { return x%2 == 1 }))
	check(t, "union", odds.Union(evens), whole)
	check(t, "inter", all.Inter(evens), chosenOf(whole, even))
	check(t, "none", odds.Inter(evens), nil)
	// Numbers are taken from one end and joined to the other set one by one, and so come into it the other way round.
	low, high := all, Set{}
	for i := range n {
		x, _ := low.At(n - 1 - i)
		rest, has, _ := low.Split(x)
		if !has || low.Rank(x) != n-1-i {
			t.Fatalf("Split tells %v, Rank %d of %d", has, low.Rank(x), x)
		}
		low, high = rest, with(x).Join(high)
	}
	check(t, "low", low, nil)
	check(t, "high", high, whole)
}

func ExampleSet() {
	s := Of([]int{5, 3, 8, 3})
	t := Of([]int{1, 5})
	fmt.Println(s.Union(t).Ints(), s.Inter(t).Ints(), s.Diff(t).Ints(), s.Ints())
	// Output: [1 3 5 8] [5] [3 8] [3 5 8]
}

func ExampleSet_Split() {
	low, has, high := Of([]int{1, 2, 3, 4, 5}).Split(3)
	fmt.Println(low.Ints(), has, high.Ints(), low.Join(high).Ints())
	// Output: [1 2] true [4 5] [1 2 4 5]
}

func ExampleSet_Shape() {
	s := Of([]int{5, 3, 8, 4})
	fmt.Println(s.Shape())
	fmt.Println(s.Rank(5))
	fmt.Println(s.At(2))
	// Output:
	// [{5 1 3 4} {4 2 -1 2} {3 -1 -1 1} {8 -1 -1 1}]
	// 2
	// 5 true
}
