package splay

import (
	"fmt"
	"math/bits"
	"runtime/debug"
	"slices"
	"testing"

	"wattlework/api"
	"wattlework/samples"
	"wattlework/search"
)

// check fails the test unless the set has the wanted numbers, which are in ascending order.
func check(t *testing.T, name string, s Set, want []int) {
	t.Helper()
	if got := s.Ints(); !slices.Equal(got, want) || s.Len() != len(want) {
		t.Errorf("%s: Ints %v, Len %d, want %v", name, got, s.Len(), want)
	}
}

// checkFind fails the test unless Find tells of each number and its neighbours whether it is in the set, which has the
// given numbers, in ascending order, and brings it up if it is.
func checkFind(t *testing.T, name string, s Set, numbers []int) {
	t.Helper()
	shape := s.Shape()
	for _, x := range samples.Near(numbers) {
		_, is := slices.BinarySearch(numbers, x)
		found, has := s.Find(x)
		check(t, fmt.Sprintf("%s, Find %d", name, x), found, numbers)
		if has != is {
			t.Errorf("%s: Find %d is %v", name, x, has)
		}
		if is && found.Shape()[0].Key != x {
			t.Errorf("%s: Find %d: Shape %v", name, x, found.Shape())
		}
	}
	if !slices.Equal(s.Shape(), shape) {
		t.Errorf("%s: %v has become %v", name, shape, s.Shape())
	}
}

// with returns the set that comes about as the numbers are put one by one.
func with(numbers ...int) Set {
	var s Set
	for _, x := range numbers {
		s = s.Put(x)
	}
	return s
}

// set returns the set that is represented by the tree.
func set(root *search.Tree) Set {
	return Set{root: root, n: len(root.Ints())}
}

// leaf returns the tree of x alone.
func leaf(x int) *search.Tree {
	return over(x, nil, nil)
}

// SP3: each way in which a number comes up, worked by hand.
func TestTurns(t *testing.T) {
	low, high := over(2, leaf(1), leaf(3)), over(6, leaf(5), leaf(7))
	outerLeft, outerRight := over(6, over(4, low, leaf(5)), leaf(7)), over(2, leaf(1), over(4, leaf(3), high))
	pathLeft := over(5, over(4, over(3, over(2, leaf(1), nil), nil), nil), nil)
	pathRight := over(1, nil, over(2, nil, over(3, nil, over(4, nil, leaf(5)))))
	for _, test := range []struct {
		name       string
		root, want *search.Tree
		x          int
	}{
		{"nothing", nil, nil, 3},
		{"only one", leaf(3), leaf(3), 3},
		{"root", over(4, low, high), over(4, low, high), 4},
		{"left", over(4, low, leaf(5)), over(2, leaf(1), over(4, leaf(3), leaf(5))), 2},
		{"right", over(4, leaf(3), high), over(6, over(4, leaf(3), leaf(5)), leaf(7)), 6},
		{"left, left", outerLeft, over(2, leaf(1), over(4, leaf(3), high)), 2},
		{"right, right", outerRight, over(6, over(4, low, leaf(5)), leaf(7)), 6},
		{"left, right", over(6, over(2, leaf(1), over(4, leaf(3), leaf(5))), leaf(7)), over(4, low, high), 4},
		{"right, left", over(2, leaf(1), over(6, over(4, leaf(3), leaf(5)), leaf(7))), over(4, low, high), 4},

		{"three to the left", outerLeft, over(1, nil, over(6, over(2, nil, over(4, leaf(3), leaf(5))), leaf(7))), 1},
		{"three to the right", outerRight, over(7, over(2, leaf(1), over(6, over(4, leaf(3), leaf(5)), nil)), nil), 7},
		{"four to the left", pathLeft, over(1, nil, over(4, over(2, nil, leaf(3)), leaf(5))), 1},
		{"four to the right", pathRight, over(5, over(2, leaf(1), over(4, leaf(3), nil)), nil), 5},

		// What is not there would be below the number that comes up.
		{"not only one", leaf(3), leaf(3), 4},
		{"less than all", over(4, low, high), over(1, nil, over(2, nil, over(4, leaf(3), high))), 0},
		{"greater than all", over(4, low, high), over(7, over(6, over(4, low, leaf(5)), nil), nil), 8},
		{"between", over(40, leaf(20), over(60, leaf(50), leaf(70))), over(50, over(40, leaf(20), nil), over(60, nil, leaf(70))), 55},
	} {
		found, has := set(test.root).Find(test.x)
		if got, want := found.Shape(), test.want.Shape(); !slices.Equal(got, want) {
			t.Errorf("%s: Shape %v, want %v", test.name, got, want)
		}
		if is := test.root.Has(test.x); has != is {
			t.Errorf("%s: Find %d is %v", test.name, test.x, has)
		}
	}
}

// SP3: what is put is on top, over what is less on the left and what is greater on the right, also if it was there before.
func TestPut(t *testing.T) {
	for _, numbers := range samples.Lists() {
		s := Of(numbers)
		want := search.Distinct(numbers)
		for _, x := range samples.Near(want) {
			more := s.Put(x)
			check(t, fmt.Sprint("with ", x), more, search.Distinct(append(slices.Clone(want), x)))
			less, _ := slices.BinarySearch(want, x)
			root := more.Shape()[0]
			if onLeft := len(more.root.Left.Ints()); root.Key != x || onLeft != less {
				t.Errorf("%v is the root of %v with %d, and over %d numbers on the left, want %d", root, want, x, onLeft, less)
			}
		}
	}
}

// SP1, SP2, SP3: Find in sets that came about in several ways.
func TestFind(t *testing.T) {
	for _, l := range samples.Lists() {
		numbers := search.Distinct(l)
		found := Of(l)
		for _, x := range samples.Near(numbers) {
			found, _ = found.Find(x)
		}
		for way, s := range map[string]Set{
			"Of":   Of(l),
			"Put":  with(l...),
			"up":   with(numbers...),
			"Drop": with(l...).Put(9).Put(-9).Drop(9).Drop(-9).Put(9).Put(-9).Drop(-9).Drop(9),
			"Find": found,
		} {
			want := numbers
			if way == "Drop" {
				want = slices.DeleteFunc(slices.Clone(numbers), func(x int) bool { return x == 9 || x == -9 })
			}
			checkFind(t, fmt.Sprint(way, want), s, want)
		}
	}
}

// SP3: nothing is found in the zero value, nor in a set that has been emptied, and they can be used afterwards.
func TestFindInNothing(t *testing.T) {
	var none Set
	found, _ := none.Find(4)
	emptied, _ := Of([]int{4, 7}).Drop(7).Drop(4).Find(4)
	for name, s := range map[string]Set{"zero": none, "found": found, "emptied": emptied} {
		checkFind(t, name, s, nil)
		checkFind(t, name+" and filled", s.Put(5).Put(3), []int{3, 5})
	}
}

// SP1, SP2, SP3: every tree of some of 6 numbers that any calls lead to, and each further one from there.
func TestAllShapes(t *testing.T) {
	all := []int{api.Least, -2, 0, 1, 7, api.Greatest}
	var none Set
	seen := map[string]bool{"[]": true}
	for waiting := []Set{none}; len(waiting) > 0; waiting = waiting[1:] {
		s := waiting[0]
		numbers, name := s.Ints(), fmt.Sprint(s.Shape())
		checkFind(t, name, s, numbers)
		for _, x := range all {
			put, dropped := s.Put(x), s.Drop(x)
			found, _ := s.Find(x)
			check(t, name+" put", put, search.Distinct(append(slices.Clone(numbers), x)))
			check(t, name+" dropped", dropped, slices.DeleteFunc(slices.Clone(numbers), func(y int) bool { return y == x }))
			if put.Shape()[0].Key != x {
				t.Errorf("%s with %d: Shape %v", name, x, put.Shape())
			}
			for _, next := range []Set{put, dropped, found} {
				if text := fmt.Sprint(next.Shape()); !seen[text] {
					seen[text] = true
					waiting = append(waiting, next)
				}
			}
		}
		if after := fmt.Sprint(s.Shape()); after != name {
			t.Errorf("%s has become %s", name, after)
		}
	}
	if len(seen) < 1<<len(all) {
		t.Errorf("%d trees of %d sets", len(seen), 1<<len(all))
	}
}

// SP1, SP3: a long line of sets, of which each is made from an earlier one, and all of which stay as they were.
func TestLongLine(t *testing.T) {
	const steps, most = 3000, 300
	mixed := 1
	draw := func(n int) int {
		mixed = mixed * 48271 % (1<<31 - 1)
		return mixed / 8 % n
	}
	var none Set
	line, wants := []Set{none}, [][]int{nil}
	for range steps {
		at := max(0, len(line)-1-draw(3))
		s, want := line[at], slices.Clone(wants[at])
		x := draw(most)
		i, is := slices.BinarySearch(want, x)
		switch draw(5) {
		case 0:
			found, has := s.Find(x)
			if has != is || has && found.Shape()[0].Key != x {
				t.Errorf("Find %d is %v: Shape %v", x, has, found.Shape())
			}
			s = found
		case 1:
			s = s.Drop(x)
			if is {
				want = slices.Delete(want, i, i+1)
			}
		default:
			s = s.Put(x)
			if !is {
				want = slices.Insert(want, i, x)
			}
			if s.Shape()[0].Key != x {
				t.Errorf("Put %d: Shape %v", x, s.Shape())
			}
		}
		line, wants = append(line, s), append(wants, want)
	}
	for i, s := range line {
		check(t, fmt.Sprint("step ", i), s, wants[i])
	}
}

// steps returns how many numbers are on the way from the root to x.
func steps(s Set, x int) int {
	n := 0
	for t := s.root; t != nil; t = below(t, x) {
		n++
	}
	return n
}

// SP3: all numbers may be on one path, but it gets shorter as it is walked along: many calls together take few steps for
// each of them, in whatever order they ask for numbers, and whether these are there or not.
func TestFewSteps(t *testing.T) {
	const n = 1 << 12
	// The numbers are the even ones, so that each is beside some that are not there.
	var left, right Set
	for i := range n {
		left, right = left.Put(2*i), right.Put(2*(n-1-i))
	}
	if one, two := steps(left, 0), steps(right, 2*(n-1)); one != n || two != n {
		t.Fatalf("the paths have %d and %d numbers, want %d", one, two, n)
	}
	for name, order := range map[string]func(i int) int{
		"up":       func(i int) int { return 2 * i },
		"down":     func(i int) int { return 2 * (n - 1 - i) },
		"mixed":    func(i int) int { return i * 7919 % n * 2 },
		"first":    func(int) int { return 0 },
		"last":     func(int) int { return 2 * (n - 1) },
		"by turns": func(i int) int { return i % 2 * n },
		"beside":   func(i int) int { return 2*i + 1 },
		"less":     func(i int) int { return -1 - i },
		"greater":  func(i int) int { return 2*n + i },
	} {
		for way, call := range map[string]func(s Set, x int) Set{
			"Find": func(s Set, x int) Set { found, _ := s.Find(x); return found },
			"Put":  Set.Put,
			"Drop": Set.Drop,
		} {
			for side, s := range map[string]Set{"left": left, "right": right} {
				all := 0
				for i := range n {
					all += steps(s, order(i))
					s = call(s, order(i))
				}
				if most := 3 * n * bits.Len(n); all > most {
					t.Errorf("%s, %s, path to the %s: %d steps, want at most %d", way, name, side, all, most)
				}
			}
		}
	}
}

// P1: a path through all numbers needs no more stack than a short one.
func TestDeep(t *testing.T) {
	defer debug.SetMaxStack(debug.SetMaxStack(1 << 20))
	const n = 1 << 18
	var left, right, zigzag *search.Tree
	for i := range n {
		left, right = over(i, left, nil), over(n-1-i, nil, right)
		// The further down, the nearer to the middle.
		if i%2 == 0 {
			zigzag = over((n-1-i)/2, nil, zigzag)
		} else {
			zigzag = over((n+i)/2, zigzag, nil)
		}
	}
	whole := samples.Rising(n)
	for name, root := range map[string]*search.Tree{"left": left, "right": right, "zigzag": zigzag} {
		s := Set{root: root, n: n}
		for _, x := range []int{-1, 0, 1, n / 2, n - 1, n} {
			is := 0 <= x && x < n
			found, has := s.Find(x)
			if has != is || is && found.Shape()[0].Key != x || !slices.Equal(found.Ints(), whole) {
				t.Errorf("%s: Find %d is %v in %d numbers", name, x, has, found.Len())
			}
			if is {
				dropped := s.Drop(x)
				if dropped.Len() != n-1 || dropped.Has(x) || !slices.Equal(dropped.Put(x).Ints(), whole) {
					t.Errorf("%s: %d numbers without %d", name, dropped.Len(), x)
				}
			}
		}
		if !slices.Equal(s.Ints(), whole) || s.root != root {
			t.Errorf("%s: the set has changed", name)
		}
	}
}

// P2: sets share all trees that are not on the way to what is put, dropped or found.
func TestSharing(t *testing.T) {
	const n = 1 << 14
	s := Of(samples.Rising(n))
	for x := 0; x < n; x += 97 {
		for name, call := range map[string]func(){
			"Put":  func() { s.Put(x) },
			"Drop": func() { s.Drop(x) },
			"Find": func() { s.Find(x) },
		} {
			if times := testing.AllocsPerRun(1, call); times > 60 {
				t.Errorf("%s %d: memory is needed %v times", name, x, times)
			}
		}
	}
}

// P2: results of sets that share trees share no memory that can be changed.
func TestResultsAreNew(t *testing.T) {
	s := Of(samples.Rising(40))
	found, _ := s.Find(17)
	beside, _ := s.Find(50)
	for _, other := range []Set{s, found, beside, found.Put(-4), found.Drop(17)} {
		clear(other.Ints())
		clear(other.Shape())
	}
	for name, other := range map[string]Set{"the set": s, "found": found, "beside": beside} {
		check(t, name, other, samples.Rising(40))
	}
}

func ExampleSet() {
	s := Of([]int{5, 3, 8, 3})
	t := s.Put(4)
	fmt.Println(s.Ints(), t.Ints(), t.Drop(5).Ints(), s.Has(4), t.Has(4), t.Len())
	// Output: [3 5 8] [3 4 5 8] [3 4 8] false true 4
}

func ExampleSet_Find() {
	s := Of([]int{5, 3, 8})
	found, has := s.Find(3)
	fmt.Println(s.Shape(), found.Shape(), has)
	_, has = s.Find(4)
	fmt.Println(s.Put(4).Shape(), has)
	// Output:
	// [{5 1 2 0} {3 -1 -1 0} {8 -1 -1 0}] [{3 -1 1 0} {5 -1 2 0} {8 -1 -1 0}] true
	// [{4 1 2 0} {3 -1 -1 0} {5 -1 3 0} {8 -1 -1 0}] false
}
