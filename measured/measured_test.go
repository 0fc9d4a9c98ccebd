package measured

import (
	"fmt"
	"slices"
	"strings"
	"testing"
)

// letter is an element whose measure is its text.
type letter string

func (x letter) Measure() text {
	return text(x)
}

// text is the measure of letters. It tells all of them in their order, so no other order nor number has the same one.
type text string

func (text) None() text {
	return ""
}

func (m text) Join(behind text) text {
	return m + behind
}

type words = Tree[letter, text]

// letters returns n letters, which differ.
func letters(n int) []letter {
	var all []letter
	for i := range n {
		all = append(all, letter(rune('A'+i)))
	}
	return all
}

// leaves returns the nodes of letters.
func leaves(all []letter) []*node[letter, text] {
	var nodes []*node[letter, text]
	for _, x := range all {
		nodes = append(nodes, leaf(x))
	}
	return nodes
}

// trees calls f with every level that FT3 allows of nodes.
func trees(nodes []*node[letter, text], f func(*level[letter, text])) {
	n := len(nodes)
	switch n {
	case 0:
		f(nil)
	case 1:
		f(single(nodes[0]))
	}
	for left := 1; left <= 4; left++ {
		for right := 1; right <= 4 && left+right <= n; right++ {
			groupings(nodes[left:n-right], nil, func(groups []*node[letter, text]) {
				trees(groups, func(inner *level[letter, text]) {
					f(deep(nodes[:left], inner, nodes[n-right:]))
				})
			})
		}
	}
}

// groupings calls f with the given groups and, behind them, those of every way to group nodes by 2 or 3.
func groupings(nodes, groups []*node[letter, text], f func([]*node[letter, text])) {
	if len(nodes) == 0 {
		f(groups)
	}
	for size := 2; size <= 3 && size <= len(nodes); size++ {
		group := []*node[letter, text]{over(nodes[:size])}
		groupings(nodes[size:], slices.Concat(groups, group), f)
	}
}

// eachTree calls f with every tree of up to n letters, and its letters.
func eachTree(n int, f func(words, []letter)) {
	for i := range n + 1 {
		all := letters(i)
		trees(leaves(all), func(l *level[letter, text]) {
			f(words{outer: l}, all)
		})
	}
}

// check fails the test unless the tree has the wanted letters, and its levels are as FT3 states.
func check(t *testing.T, name string, tree words, want []letter) {
	t.Helper()
	if got := slices.Collect(tree.All()); !slices.Equal(got, want) {
		t.Errorf("%s: All %v, want %v", name, got, want)
	}
	var whole text
	for _, x := range want {
		whole += text(x)
	}
	if got := tree.Measure(); got != whole {
		t.Errorf("%s: Measure %q, want %q", name, got, whole)
	}
	digits := tree.Digits()
	depth := 0
	for l := tree.outer; l != nil; l = l.inner {
		checkLevel(t, name, l, depth)
		if depth >= len(digits) || digits[depth] != [2]int{len(l.left), len(l.right)} {
			t.Fatalf("%s: Digits %v", name, digits)
		}
		depth++
	}
	if len(digits) != depth {
		t.Errorf("%s: Digits %v of %d levels", name, digits, depth)
	}
}

// checkLevel fails the test unless there are 1 to 4 nodes on either side, or just one, and each of them is as it should
// be at that depth.
func checkLevel(t *testing.T, name string, l *level[letter, text], depth int) {
	t.Helper()
	left, right := len(l.left), len(l.right)
	alone := left == 1 && right == 0 && l.inner == nil
	if !alone && (left < 1 || left > 4 || right < 1 || right > 4) {
		t.Errorf("%s: %d and %d nodes at depth %d", name, left, right, depth)
	}
	var measure text
	for _, n := range l.left {
		measure += checkNode(t, name, n, depth)
	}
	if l.inner != nil {
		measure += l.inner.measure
	}
	for _, n := range l.right {
		measure += checkNode(t, name, n, depth)
	}
	if l.measure != measure {
		t.Errorf("%s: at depth %d, measure %q, want %q", name, depth, l.measure, measure)
	}
}

// checkNode fails the test unless the node is one letter, or 2 or 3 nodes, according to the depth. It returns what its
// measure should be.
func checkNode(t *testing.T, name string, n *node[letter, text], depth int) text {
	t.Helper()
	measure := text(n.element)
	for _, part := range n.parts {
		measure += checkNode(t, name, part, depth-1)
	}
	parts := len(n.parts)
	if depth == 0 && parts != 0 || depth > 0 && parts != 2 && parts != 3 {
		t.Errorf("%s: a node of %d parts at depth %d", name, parts, depth)
	}
	if n.measure != measure {
		t.Errorf("%s: a node measures %q, want %q", name, n.measure, measure)
	}
	return measure
}

// FT1, FT3: what is read from every tree, added to it and taken from it.
func TestTrees(t *testing.T) {
	eachTree(19, func(tree words, all []letter) {
		name := fmt.Sprint(tree.Digits())
		check(t, name, tree, all)
		check(t, name+" PushLeft", tree.PushLeft("x"), slices.Concat([]letter{"x"}, all))
		check(t, name+" PushRight", tree.PushRight("x"), slices.Concat(all, []letter{"x"}))
		n := len(all)
		if n == 0 {
			return
		}
		first, behind, has := tree.PopLeft()
		if first != all[0] || !has {
			t.Errorf("%s: PopLeft is %q %v, want %q true", name, first, has, all[0])
		}
		check(t, name+" PopLeft", behind, all[1:])
		last, before, has := tree.PopRight()
		if last != all[n-1] || !has {
			t.Errorf("%s: PopRight is %q %v, want %q true", name, last, has, all[n-1])
		}
		check(t, name+" PopRight", before, all[:n-1])
		check(t, name+" behind", tree, all)
	})
}

// P2: what is made of a tree does not change what else was made of it.
func TestPersistence(t *testing.T) {
	eachTree(15, func(tree words, all []letter) {
		name := fmt.Sprint(tree.Digits())
		left, right := tree.PushLeft("x"), tree.PushRight("x")
		tree.PushLeft("y").PushRight("y")
		tree.PushRight("y").PushLeft("y")
		before, behind := tree.Split(func(m text) bool { return len(m) > len(all)/2 })
		before.PushRight("z").Join(behind.PushLeft("z"))
		check(t, name, tree, all)
		check(t, name+" left", left, slices.Concat([]letter{"x"}, all))
		check(t, name+" right", right, slices.Concat(all, []letter{"x"}))
		check(t, name+" before", before, all[:len(all)/2])
		check(t, name+" behind", behind, all[len(all)/2:])
	})
}

// FT1: nothing comes out of a tree without elements.
func TestNone(t *testing.T) {
	var tree words
	x, rest, has := tree.PopLeft()
	if x != "" || has {
		t.Errorf("PopLeft is %q %v, want nothing, false", x, has)
	}
	check(t, "PopLeft", rest, nil)
	x, rest, has = tree.PopRight()
	if x != "" || has {
		t.Errorf("PopRight is %q %v, want nothing, false", x, has)
	}
	check(t, "PopRight", rest, nil)
}

// FT1, FT3: two trees, whatever they are.
func TestJoin(t *testing.T) {
	eachTree(10, func(a words, before []letter) {
		eachTree(10, func(b words, behind []letter) {
			name := fmt.Sprint(a.Digits(), b.Digits())
			check(t, name, a.Join(b), slices.Concat(before, behind))
		})
	})
}

// FT1, FT3: trees with several levels, one of which may have more of them.
func TestJoinDeep(t *testing.T) {
	sizes := []int{0, 1, 2, 5, 9, 14, 30, 61, 100, 200}
	for _, n := range sizes {
		for _, m := range sizes {
			all := letters(n + m)
			var a, b words
			for _, x := range all[:n] {
				a = a.PushRight(x)
			}
			for _, x := range slices.Backward(all[n:]) {
				b = b.PushLeft(x)
			}
			name := fmt.Sprint(n, " and ", m)
			check(t, name, a.Join(b), all)
			check(t, name+" turned", b.Join(a), slices.Concat(all[n:], all[:n]))
			check(t, name+" thrice", a.Join(b).Join(a), slices.Concat(all, all[:n]))
		}
	}
}

// FT2, FT3: every tree is split at every place, by a predicate that is only asked of beginnings.
func TestSplit(t *testing.T) {
	eachTree(17, func(tree words, all []letter) {
		whole := string(tree.Measure())
		for i := range len(all) + 2 {
			name := fmt.Sprint("Split at ", i, " of ", tree.Digits())
			left, right := tree.Split(func(m text) bool {
				if !strings.HasPrefix(whole, string(m)) {
					t.Errorf("%s: %q is no beginning of %q", name, m, whole)
				}
				return len(m) >= i
			})
			// One more letter makes it true, so i - 1 letters are before that.
			before := min(max(i-1, 0), len(all))
			check(t, name, left, all[:before])
			check(t, name, right, all[before:])
		}
		check(t, whole, tree, all)
	})
}

// FT2, FT3: whatever the predicate answers, no element is lost, and none comes in another's place. If it is true of
// nothing, there is nothing on the left.
func TestSplitByAnything(t *testing.T) {
	eachTree(10, func(tree words, all []letter) {
		for answers := range 1 << (len(all) + 1) {
			left, right := tree.Split(func(m text) bool {
				return answers>>len(m)&1 == 1
			})
			n := len(left.Measure())
			if n > len(all) || answers&1 == 1 && n > 0 {
				t.Fatalf("%v by %b: %d letters on the left", tree.Digits(), answers, n)
			}
			name := fmt.Sprintf("%v by %b", tree.Digits(), answers)
			check(t, name, left, all[:n])
			check(t, name, right, all[n:])
		}
	})
}

// FT1: All stops where its range does, and begins anew in the next one.
func TestAllStops(t *testing.T) {
	eachTree(15, func(tree words, all []letter) {
		iterated := tree.All()
		for stop := range all {
			var got []letter
			for x := range iterated {
				got = append(got, x)
				if len(got) == stop+1 {
					break
				}
			}
			if !slices.Equal(got, all[:stop+1]) {
				t.Errorf("All of %v up to %d: %v", tree.Digits(), stop, got)
			}
		}
	})
}

// FT1, FT2: a tree of very many elements, made of few, is joined and split in few steps.
func TestShared(t *testing.T) {
	tree := Tree[one, count]{}.PushRight(one{})
	const doublings = 60
	for range doublings {
		tree = tree.Join(tree)
	}
	const n = 1 << doublings
	if got := tree.Measure(); got != n {
		t.Errorf("Measure %d, want %d", got, n)
	}
	for _, i := range []count{0, 1, 2, 3, 1000, n/2 - 1, n / 2, n/3 + 1, n - 2, n - 1, n} {
		asked := 0
		left, right := tree.Split(func(m count) bool {
			asked++
			return m > i
		})
		if left.Measure() != i || right.Measure() != n-i {
			t.Errorf("Split at %d: %d and %d", i, left.Measure(), right.Measure())
		}
		// On each level, there is one question for each side, and fewer than 4 for the nodes of either one of them.
		if levels := len(tree.Digits()); levels > doublings+1 || asked > 5*levels+2 {
			t.Errorf("Split at %d: asked %d times, on %d levels", i, asked, levels)
		}
	}
}

// one is an element that counts.
type one struct{}

func (one) Measure() count {
	return 1
}

// count is the measure of elements that count.
type count int

func (count) None() count {
	return 0
}

func (m count) Join(behind count) count {
	return m + behind
}

func ExampleTree() {
	tree := Tree[letter, text]{}.PushRight("b").PushRight("c").PushLeft("a")
	left, right := tree.Split(func(m text) bool { return strings.Contains(string(m), "b") })
	fmt.Println(tree.Measure(), left.Measure(), right.Measure())
	// Output: abc a bc
}
