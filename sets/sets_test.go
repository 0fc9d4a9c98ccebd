// Package sets tests what the sets of the packages of search trees have in common: their chapters promise it in the
// same words.
package sets

import (
	"fmt"
	"runtime/debug"
	"slices"
	"testing"

	"wattlework/api"
	"wattlework/avl"
	"wattlework/red"
	"wattlework/samples"
	"wattlework/splay"
	"wattlework/treap"
	"wattlework/wbt"
)

// set is what the sets of every package can do.
type set[S any] interface {
	Len() int
	Has(x int) bool
	Put(x int) S
	Drop(x int) S
	Ints() []int
	Shape() []api.Node
}

// kind is the sets of one package. It has the function that makes one of a list of numbers, and one that checks what
// else holds for the nodes of each of them.
type kind[S set[S]] struct {
	of   func(l []int) S
	also func(t *testing.T, name string, nodes []api.Node)
}

// AV1, AV2
func TestAvl(t *testing.T) {
	testAll(t, kind[avl.Set]{of: avl.Of, also: checkHeights})
}

// RB1, RB2
func TestRed(t *testing.T) {
	testAll(t, kind[red.Set]{of: red.Of, also: checkColours})
}

// WB1, WB2
func TestWbt(t *testing.T) {
	testAll(t, kind[wbt.Set]{of: wbt.Of, also: checkWeights})
}

// TP1, TP2
func TestTreap(t *testing.T) {
	testAll(t, kind[treap.Set]{of: treap.Of, also: checkPriorities})
}

// SP1, SP2
func TestSplay(t *testing.T) {
	testAll(t, kind[splay.Set]{of: splay.Of, also: checkUnmarked})
}

// testAll runs all tests with the sets of one package.
func testAll[S set[S]](t *testing.T, k kind[S]) {
	for _, test := range []struct {
		name string
		run  func(t *testing.T)
	}{
		{"numbers", k.testNumbers},
		{"zero value", k.testZeroValue},
		{"emptied", k.testEmptied},
		{"there already", k.testThereAlready},
		{"not there", k.testNotThere},
		{"orders", k.testOrders},
		{"all shapes", k.testAllShapes},
		{"long line", k.testLongLine},
		{"of keeps argument", k.testOfKeepsArgument},
		{"results are new", k.testResultsAreNew},
		{"persistence", k.testPersistence},
		{"large", k.testLarge},
		{"one by one", k.testOneByOne},
	} {
		t.Run(test.name, test.run)
	}
}

// checkHeights fails the test unless each mark is the height of its node, whose subtrees have nearly the same.
func checkHeights(t *testing.T, name string, nodes []api.Node) {
	t.Helper()
	height := func(at int) int {
		if at == -1 {
			return 0
		}
		return nodes[at].Mark
	}
	for _, node := range slices.Backward(nodes) {
		left, right := height(node.Left), height(node.Right)
		if node.Mark != 1+max(left, right) || left > right+1 || right > left+1 {
			t.Errorf("%s: the mark of %d is %d over %d and %d", name, node.Key, node.Mark, left, right)
		}
	}
}

// checkColours fails the test unless the marks are the colours of a red-black tree: 1 for red and 0 for black.
func checkColours(t *testing.T, name string, nodes []api.Node) {
	t.Helper()
	const black, red = 0, 1
	colour := func(at int) int {
		if at == -1 {
			return black
		}
		return nodes[at].Mark
	}
	if len(nodes) > 0 && colour(0) != black {
		t.Errorf("%s: the mark of the root is %d", name, colour(0))
	}
	// blacks has the number of black nodes on each path from a node down.
	blacks := map[int]int{-1: 0}
	for at, node := range slices.Backward(nodes) {
		left, right := blacks[node.Left], blacks[node.Right]
		if left != right {
			t.Errorf("%s: %d is over %d and over %d black ones", name, node.Key, left, right)
		}
		switch {
		case node.Mark == black:
			blacks[at] = left + 1
		case node.Mark != red || colour(node.Left) == red || colour(node.Right) == red:
			t.Errorf("%s: the mark of %d is %d over %d and %d", name, node.Key, node.Mark, colour(node.Left), colour(node.Right))
		default:
			blacks[at] = left
		}
	}
}

// checkWeights fails the test unless each mark is the size of its node's tree, whose subtrees do not differ too much.
func checkWeights(t *testing.T, name string, nodes []api.Node) {
	t.Helper()
	size := func(at int) int {
		if at == -1 {
			return 0
		}
		return nodes[at].Mark
	}
	for _, node := range slices.Backward(nodes) {
		left, right := size(node.Left), size(node.Right)
		if node.Mark != left+1+right || left+1 > 3*(right+1) || right+1 > 3*(left+1) {
			t.Errorf("%s: the mark of %d is %d over %d and %d", name, node.Key, node.Mark, left, right)
		}
	}
}

// checkPriorities fails the test unless each mark is the priority of its node, which is not above one of greater
// priority, nor above one of the same priority and a lesser number.
func checkPriorities(t *testing.T, name string, nodes []api.Node) {
	t.Helper()
	for _, node := range nodes {
		if node.Mark != api.Prio(node.Key) {
			t.Errorf("%s: the mark of %d is %d", name, node.Key, node.Mark)
		}
		for _, at := range []int{node.Left, node.Right} {
			if at == -1 {
				continue
			}
			below := nodes[at]
			if below.Mark > node.Mark || below.Mark == node.Mark && below.Key < node.Key {
				t.Errorf("%s: %d is above %d, with priorities %d and %d", name, node.Key, below.Key, node.Mark, below.Mark)
			}
		}
	}
}

// checkUnmarked fails the test unless all marks are 0.
func checkUnmarked(t *testing.T, name string, nodes []api.Node) {
	t.Helper()
	for _, node := range nodes {
		if node.Mark != 0 {
			t.Errorf("%s: the mark of %d is %d", name, node.Key, node.Mark)
		}
	}
}

// checkTree fails the test unless the nodes are those of a search tree in preorder.
func checkTree(t *testing.T, name string, nodes []api.Node) {
	t.Helper()
	type subtree struct{ size, least, most int }
	subtrees := make([]subtree, len(nodes))
	for at, node := range slices.Backward(nodes) {
		// In preorder, what is below a node comes behind it, and so has been looked at.
		all := subtree{size: 1, least: node.Key, most: node.Key}
		if node.Left != -1 {
			if node.Left != at+1 || node.Left >= len(nodes) || subtrees[node.Left].most >= node.Key {
				t.Fatalf("%s: wrong node %d on the left in %v", name, at, nodes)
			}
			all.size += subtrees[node.Left].size
			all.least = subtrees[node.Left].least
		}
		if node.Right != -1 {
			if node.Right != at+all.size || node.Right >= len(nodes) || subtrees[node.Right].least <= node.Key {
				t.Fatalf("%s: wrong node %d on the right in %v", name, at, nodes)
			}
			all.size += subtrees[node.Right].size
			all.most = subtrees[node.Right].most
		}
		subtrees[at] = all
	}
	if len(nodes) > 0 && subtrees[0].size != len(nodes) {
		t.Errorf("%s: %d nodes below the root, and %d in all", name, subtrees[0].size, len(nodes))
	}
}

// distinct returns the numbers of all the lists once each, in ascending order.
func distinct(lists ...[]int) []int {
	all := slices.Concat(lists...)
	slices.Sort(all)
	return slices.Compact(all)
}

// without returns the numbers of the list that are not x.
func without(l []int, x int) []int {
	return slices.DeleteFunc(slices.Clone(l), func(y int) bool { return y == x })
}

// check fails the test unless everything that reads a set finds the wanted numbers in it, and no others.
func (k kind[S]) check(t *testing.T, name string, s S, numbers []int) {
	t.Helper()
	want := distinct(numbers)
	k.checkShape(t, name, s, want)
	for _, x := range slices.Concat(want, []int{0, api.Least, api.Greatest}) {
		// The neighbours of the edges of ints are those of the other edge.
		for _, y := range []int{x - 1, x, x + 1} {
			_, is := slices.BinarySearch(want, y)
			if s.Has(y) != is {
				t.Errorf("%s: Has %d is %v in %v", name, y, !is, want)
			}
		}
	}
}

// checkShape is check without Has. The numbers are in ascending order.
func (k kind[S]) checkShape(t *testing.T, name string, s S, want []int) {
	t.Helper()
	if got := s.Ints(); !slices.Equal(got, want) {
		t.Errorf("%s: Ints %v, want %v", name, got, want)
	}
	if got := s.Len(); got != len(want) {
		t.Errorf("%s: Len %d, want %d", name, got, len(want))
	}
	nodes := s.Shape()
	var keys []int
	for _, node := range nodes {
		keys = append(keys, node.Key)
	}
	slices.Sort(keys)
	if !slices.Equal(keys, want) {
		t.Errorf("%s: the nodes have the numbers %v, want %v", name, keys, want)
	}
	checkTree(t, name, nodes)
	k.also(t, name, nodes)
}

// ways returns sets of the same numbers that came about in several ways.
func (k kind[S]) ways(numbers []int) map[string]S {
	var put, backward S
	for i, x := range numbers {
		put = put.Put(x)
		backward = backward.Put(numbers[len(numbers)-1-i])
	}
	dropped := k.of(slices.Concat([]int{api.Least, -40, 0, 3, 17}, numbers, []int{-1, 5, 6, api.Greatest}))
	for _, x := range []int{6, 3, -40, api.Greatest, 17, api.Least, -1, 0, 5} {
		if !slices.Contains(numbers, x) {
			dropped = dropped.Drop(x)
		}
	}
	again := k.of(numbers)
	for _, x := range numbers {
		again = again.Drop(x).Put(x)
	}
	third := k.of(numbers[:len(numbers)/3])
	for _, x := range numbers[len(numbers)/3:] {
		third = third.Put(x)
	}
	return map[string]S{
		"Of":       k.of(numbers),
		"Put":      put,
		"backward": backward,
		"Drop":     dropped,
		"again":    again,
		"third":    third,
	}
}

// AV1, AV2, RB1, RB2, WB1, WB2, TP1, TP2, SP1, SP2: the numbers of a set and their tree, however the set came about.
func (k kind[S]) testNumbers(t *testing.T) {
	for _, numbers := range samples.Lists() {
		for way, s := range k.ways(numbers) {
			k.check(t, fmt.Sprint(way, numbers), s, numbers)
		}
	}
	for n := range 200 {
		for _, numbers := range [][]int{samples.Rising(n), samples.Many(n)} {
			k.check(t, fmt.Sprint("Of ", n), k.of(numbers), numbers)
		}
	}
}

// AV1, RB1, WB1, TP1, SP1: the zero value is an empty set like any other.
func (k kind[S]) testZeroValue(t *testing.T) {
	var s S
	k.check(t, "zero", s, nil)
	k.check(t, "put", s.Put(4), []int{4})
	k.check(t, "put more", s.Put(4).Put(0).Put(9), []int{0, 4, 9})
	k.check(t, "dropped", s.Drop(0), nil)
	k.check(t, "dropped and put", s.Drop(4).Put(4), []int{4})
}

// AV1, RB1, WB1, TP1, SP1: a set that has been emptied is an empty set like any other, in whatever order its numbers were
// dropped.
func (k kind[S]) testEmptied(t *testing.T) {
	for _, numbers := range samples.Lists() {
		turned := slices.Clone(numbers)
		slices.Reverse(turned)
		for _, order := range [][]int{numbers, turned, distinct(numbers)} {
			s, left := k.of(numbers), numbers
			for _, x := range order {
				s, left = s.Drop(x), without(left, x)
				k.check(t, fmt.Sprint("without ", x), s, left)
			}
			k.check(t, "filled", s.Put(7).Put(2).Put(6), []int{2, 6, 7})
			k.check(t, "emptied", s, nil)
		}
	}
}

// AV1, RB1, WB1, TP1, SP1: a set with x is the same with x.
func (k kind[S]) testThereAlready(t *testing.T) {
	for _, numbers := range samples.Lists() {
		s := k.of(numbers)
		for _, x := range numbers {
			k.check(t, fmt.Sprint("with ", x), s.Put(x), numbers)
			k.check(t, "and without", s.Put(x).Put(x).Drop(x), without(numbers, x))
		}
	}
}

// AV1, RB1, WB1, TP1, SP1: a set without x is the same without x.
func (k kind[S]) testNotThere(t *testing.T) {
	for _, numbers := range samples.Lists() {
		s := k.of(numbers)
		for _, x := range slices.Concat(numbers, []int{0, api.Least, api.Greatest}) {
			for _, y := range []int{x - 1, x, x + 1} {
				left := without(numbers, y)
				k.check(t, fmt.Sprint("without ", y), s.Drop(y), left)
				k.check(t, fmt.Sprint("twice without ", y), s.Drop(y).Drop(y), left)
			}
		}
	}
}

// AV1, AV2, RB1, RB2, WB1, WB2, TP1, TP2, SP1, SP2: the order in which numbers are put and dropped does not matter.
func (k kind[S]) testOrders(t *testing.T) {
	order := []int{1, 2, 3, 4, 5, 6, 7}
	whole := k.of(order)
	var walk func(fixed int, put, rest S)
	walk = func(fixed int, put, rest S) {
		k.check(t, fmt.Sprint("with ", order[:fixed]), put, order[:fixed])
		k.check(t, fmt.Sprint("without ", order[:fixed]), rest, order[fixed:])
		for i := fixed; i < len(order); i++ {
			order[fixed], order[i] = order[i], order[fixed]
			walk(fixed+1, put.Put(order[fixed]), rest.Drop(order[fixed]))
			order[fixed], order[i] = order[i], order[fixed]
		}
	}
	var none S
	walk(0, none, whole)
}

// AV1, AV2, RB1, RB2, WB1, WB2, TP1, TP2, SP1, SP2: every tree of some of 8 numbers that any puts and drops lead to, and
// each further one from there.
func (k kind[S]) testAllShapes(t *testing.T) {
	const most = 8
	var none S
	seen := map[string]bool{"[]": true}
	waiting := []S{none}
	for len(waiting) > 0 {
		s := waiting[0]
		waiting = waiting[1:]
		numbers, shape := s.Ints(), s.Shape()
		for x := range most {
			with, rest := s.Put(x), s.Drop(x)
			k.check(t, fmt.Sprint(shape, " with ", x), with, append(slices.Clone(numbers), x))
			k.check(t, fmt.Sprint(shape, " without ", x), rest, without(numbers, x))
			for _, next := range []S{with, rest} {
				if text := fmt.Sprint(next.Shape()); !seen[text] {
					seen[text] = true
					waiting = append(waiting, next)
				}
			}
		}
		if !slices.Equal(s.Shape(), shape) {
			t.Errorf("%v has become %v", shape, s.Shape())
		}
	}
	if len(seen) < 1<<most {
		t.Errorf("%d trees of %d sets", len(seen), 1<<most)
	}
}

// AV1, AV2, RB1, RB2, WB1, WB2, TP1, TP2, SP1, SP2: a long line of sets, of which each is made from the one before, and
// all of which stay as they were.
func (k kind[S]) testLongLine(t *testing.T) {
	const steps, numbers = 3000, 400
	var s S
	is := map[int]bool{}
	line, wants := []S{s}, [][]int{nil}
	mixed := 1
	for range steps {
		mixed = mixed * 48271 % (1<<31 - 1)
		x := mixed % numbers
		// More are put than dropped in one half of the numbers, and the other way round in the other.
		is[x] = mixed/numbers%4 == 0 != (x%2 == 0)
		if is[x] {
			s = s.Put(x)
		} else {
			s = s.Drop(x)
		}
		var want []int
		for x := range numbers {
			if is[x] {
				want = append(want, x)
			}
		}
		line, wants = append(line, s), append(wants, want)
	}
	for i, s := range line {
		k.check(t, fmt.Sprint("step ", i), s, wants[i])
	}
}

// P2: Of neither changes nor keeps its argument, nor the memory behind its length.
func (k kind[S]) testOfKeepsArgument(t *testing.T) {
	whole := []int{4, -9, 2, 4, 6, 77, 78}
	before := slices.Clone(whole)
	s := k.of(whole[:5])
	k.check(t, "put", s.Put(1), []int{4, -9, 2, 6, 1})
	if !slices.Equal(whole, before) {
		t.Errorf("the argument is changed: %v", whole)
	}
	clear(whole)
	k.check(t, "the argument cleared", s, []int{4, -9, 2, 6})
}

// P2: each call of Ints and of Shape returns memory of its own, and the set keeps none of it.
func (k kind[S]) testResultsAreNew(t *testing.T) {
	for _, numbers := range samples.Lists() {
		s := k.of(numbers)
		ints, nodes := s.Ints(), s.Shape()
		before, shape := slices.Clone(ints), slices.Clone(nodes)
		for _, other := range [][]int{s.Ints(), s.Put(3).Ints(), s.Drop(5).Ints()} {
			clear(other[:cap(other)])
			_ = append(other[:0], 70, 71, 72)
		}
		for _, other := range [][]api.Node{s.Shape(), s.Put(3).Shape(), s.Drop(5).Shape()} {
			clear(other[:cap(other)])
			_ = append(other[:0], api.Node{Key: 70}, api.Node{Key: 71})
		}
		if !slices.Equal(ints, before) || !slices.Equal(nodes, shape) || !slices.Equal(s.Shape(), shape) {
			t.Errorf("the other results are changed: %v and %v, want %v and %v", ints, nodes, before, shape)
		}
		k.check(t, "the set", s, numbers)
	}
}

// P2: no method changes its receiver; two sets that were made from one do not meet.
func (k kind[S]) testPersistence(t *testing.T) {
	for _, numbers := range samples.Lists() {
		s := k.of(numbers)
		shape := s.Shape()
		one, two := s.Put(-1), s.Put(2)
		three, four := one.Drop(5), one.Drop(8).Put(4)
		three.Put(5).Drop(-1)
		two.Drop(2).Put(-1)
		k.check(t, "s", s, numbers)
		k.check(t, "one", one, slices.Concat(numbers, []int{-1}))
		k.check(t, "two", two, slices.Concat(numbers, []int{2}))
		k.check(t, "three", three, slices.Concat(without(numbers, 5), []int{-1}))
		k.check(t, "four", four, slices.Concat(without(numbers, 8), []int{-1, 4}))
		if !slices.Equal(s.Shape(), shape) {
			t.Errorf("%v has become %v", shape, s.Shape())
		}
	}
}

// P1: a large set needs no more stack than a small one, and no pass over it at every step.
func (k kind[S]) testLarge(t *testing.T) {
	defer debug.SetMaxStack(debug.SetMaxStack(1 << 20))
	const n = 1 << 17
	var s S
	var l, evens []int
	for i := range n {
		// As 7919 and n have no common divisor, every number comes once.
		x := i * 7919 % n
		l = append(l, x)
		s = s.Put(x)
		if s.Len() != i+1 || !s.Has(x) || s.Has(x+n) {
			t.Fatalf("%d numbers, Has %d %v", s.Len(), x, s.Has(x))
		}
		if i%2 == 0 {
			evens = append(evens, i)
		}
	}
	k.checkShape(t, "put", s, samples.Rising(n))
	k.checkShape(t, "Of", k.of(l), samples.Rising(n))
	half := s
	for _, x := range l {
		if x%2 == 1 {
			half = half.Drop(x)
		}
	}
	k.checkShape(t, "dropped", half, evens)
	k.checkShape(t, "the set", s, samples.Rising(n))
}

// P1: nor does a set whose numbers come and go in an order that puts all of them on one path if no care is taken.
func (k kind[S]) testOneByOne(t *testing.T) {
	defer debug.SetMaxStack(debug.SetMaxStack(1 << 20))
	const n = 1 << 16
	var up, down S
	for i := range n {
		up, down = up.Put(i), down.Put(n-1-i)
	}
	for name, s := range map[string]S{"up": up, "down": down, "Of": k.of(samples.Rising(n))} {
		k.checkShape(t, name, s, samples.Rising(n))
		first, last := s, s
		for i := range n - 3 {
			first, last = first.Drop(i), last.Drop(n-1-i)
		}
		k.check(t, name+" from the first", first, []int{n - 3, n - 2, n - 1})
		k.check(t, name+" from the last", last, []int{0, 1, 2})
	}
}
