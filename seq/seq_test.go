package seq

import (
	"fmt"
	"runtime/debug"
	"slices"
	"testing"

	"wattlework/api"
	"wattlework/mono"
	"wattlework/samples"
)

// check fails the test unless everything that reads a sequence finds the wanted numbers in it.
func check(t *testing.T, name string, s Seq, want []int) {
	t.Helper()
	if got := s.Ints(); !slices.Equal(got, want) {
		t.Errorf("%s: Ints %v, want %v", name, got, want)
	}
	if got := s.Len(); got != len(want) {
		t.Errorf("%s: Len %d, want %d", name, got, len(want))
	}
	for i, w := range want {
		if got, has := s.At(i); got != w || !has {
			t.Errorf("%s: At(%d) is %d %v, want %d true", name, i, got, has, w)
		}
	}
	checkMeasure(t, name, s, 0, len(want), want)
}

// checkMeasure fails the test unless Measure tells of the wanted numbers at the indices from i to j - 1.
func checkMeasure(t *testing.T, name string, s Seq, i, j int, want []int) {
	t.Helper()
	if got, has := s.Measure(i, j); got != mono.Of(want) || !has {
		t.Errorf("%s: Measure(%d, %d) is %v %v, want %v true", name, i, j, got, has, mono.Of(want))
	}
}

// checkFound fails the test unless has is true and the sequence has the wanted numbers.
func checkFound(t *testing.T, name string, s Seq, has bool, want []int) {
	t.Helper()
	if !has {
		t.Errorf("%s reports false", name)
	}
	check(t, name, s, want)
}

// checkNone fails the test unless has is false and the sequence is empty, and also otherwise like one.
func checkNone(t *testing.T, name string, s Seq, has bool) {
	t.Helper()
	if has {
		t.Errorf("%s reports true", name)
	}
	check(t, name, s, nil)
	check(t, name+", filled", Of([]int{7, 2}).Join(s).Join(Of([]int{6})), []int{7, 2, 6})
}

// set returns the numbers with x at index i.
func set(numbers []int, i, x int) []int {
	return slices.Concat(numbers[:i], []int{x}, numbers[i+1:])
}

// inserted returns the numbers with x before index i.
func inserted(numbers []int, i, x int) []int {
	return slices.Concat(numbers[:i], []int{x}, numbers[i:])
}

// deleted returns the numbers without the one at index i.
func deleted(numbers []int, i int) []int {
	return slices.Concat(numbers[:i], numbers[i+1:])
}

// ways returns sequences of the same numbers that came about in several ways.
func ways(numbers []int) map[string]Seq {
	n := len(numbers)
	var front, end, middle, thinned Seq
	for i, x := range numbers {
		end, _ = end.Insert(i, x)
		front, _ = front.Insert(0, numbers[n-1-i])
		// The first number, the last one, the second one, the last but one, and so on.
		next := numbers[i/2]
		if i%2 == 1 {
			next = numbers[n-1-i/2]
		}
		middle, _ = middle.Insert((i+1)/2, next)
		thinned = thinned.Join(Of([]int{x, 91, 92}))
	}
	for i := range n {
		thinned, _ = thinned.Delete(i + 1)
		thinned, _ = thinned.Delete(i + 1)
	}
	replaced := Of(make([]int, n))
	for i, x := range numbers {
		replaced, _ = replaced.Set(i, x)
	}
	part, _ := Of(slices.Concat([]int{91, 92}, numbers, []int{93})).Slice(2, 2+n)
	return map[string]Seq{
		"Of":                    Of(numbers),
		"Insert, at the front":  front,
		"Insert, at the end":    end,
		"Insert, in the middle": middle,
		"Delete":                thinned,
		"Set":                   replaced,
		"Slice":                 part,
		"Join":                  Of(numbers[:n/2]).Join(Of(numbers[n/2:])),
	}
}

// SQ1: the numbers of a sequence, however it came about.
func TestNumbers(t *testing.T) {
	for _, numbers := range samples.Lists() {
		for way, s := range ways(numbers) {
			check(t, fmt.Sprint(way, numbers), s, numbers)
		}
	}
}

// SQ1: the zero value is an empty sequence like any other.
func TestZeroValue(t *testing.T) {
	var zero Seq
	check(t, "zero", zero, nil)
	s, has := zero.Insert(0, 4)
	checkFound(t, "Insert", s, has, []int{4})
	s, has = zero.Slice(0, 0)
	checkFound(t, "Slice", s, has, nil)
	s, has = zero.Set(0, 4)
	checkNone(t, "Set", s, has)
	s, has = zero.Delete(0)
	checkNone(t, "Delete", s, has)
	check(t, "Join", zero.Join(zero), nil)
	check(t, "Join before", zero.Join(Of([]int{1, 2})), []int{1, 2})
	check(t, "Join behind", Of([]int{1, 2}).Join(zero), []int{1, 2})
}

// SQ1: a sequence that has been emptied is an empty one like any other.
func TestEmptied(t *testing.T) {
	for _, numbers := range samples.Lists() {
		s := Of(numbers)
		part, _ := s.Slice(len(numbers), len(numbers))
		for i := range numbers {
			s, _ = s.Delete(i % s.Len())
		}
		for name, empty := range map[string]Seq{"Delete": s, "Slice": part} {
			check(t, name, empty, nil)
			filled, has := empty.Insert(0, 6)
			checkFound(t, name+" and Insert", filled, has, []int{6})
			check(t, name+" and Join", empty.Join(Of(numbers)), numbers)
		}
	}
}

// SQ1: a 0 is a number like any other.
func TestZeros(t *testing.T) {
	for n := range 12 {
		zeros := make([]int, n)
		s := Of(zeros)
		for i := range n + 1 {
			longer, has := s.Insert(i, 0)
			checkFound(t, "Insert", longer, has, make([]int, n+1))
		}
		for i := range n {
			shorter, has := s.Delete(i)
			checkFound(t, "Delete", shorter, has, make([]int, n-1))
		}
		check(t, "zeros", s, zeros)
	}
}

// SQ1: Set replaces the number at every index, by any number, and no other one.
func TestSet(t *testing.T) {
	for n := range 40 {
		numbers := samples.Many(n)
		s := Of(numbers)
		for i := range numbers {
			for _, x := range []int{1000, 0, numbers[i], api.Greatest, api.Least} {
				name := fmt.Sprintf("Set(%d, %d) of %d numbers", i, x, n)
				got, has := s.Set(i, x)
				checkFound(t, name, got, has, set(numbers, i, x))
			}
		}
		check(t, "the sequence", s, numbers)
	}
}

// SQ1: Insert puts any number before every index, and at the end.
func TestInsert(t *testing.T) {
	for n := range 40 {
		numbers := samples.Many(n)
		s := Of(numbers)
		for i := range n + 1 {
			for _, x := range []int{1000, 0, api.Greatest, api.Least} {
				name := fmt.Sprintf("Insert(%d, %d) into %d numbers", i, x, n)
				got, has := s.Insert(i, x)
				checkFound(t, name, got, has, inserted(numbers, i, x))
			}
		}
		check(t, "the sequence", s, numbers)
	}
}

// SQ1: Delete takes the number at every index out, and no other one.
func TestDelete(t *testing.T) {
	for n := range 70 {
		numbers := samples.Many(n)
		s := Of(numbers)
		for i := range numbers {
			name := fmt.Sprintf("Delete(%d) of %d numbers", i, n)
			got, has := s.Delete(i)
			checkFound(t, name, got, has, deleted(numbers, i))
		}
		check(t, "the sequence", s, numbers)
	}
}

// SQ1: every part of a sequence, and its measure, however the sequence came about; those without numbers are among them.
func TestParts(t *testing.T) {
	for _, numbers := range samples.Lists() {
		for way, s := range ways(numbers) {
			for i := range len(numbers) + 1 {
				for j := i; j <= len(numbers); j++ {
					name := fmt.Sprintf("%s %v, Slice(%d, %d)", way, numbers, i, j)
					part, has := s.Slice(i, j)
					if got := part.Ints(); !slices.Equal(got, numbers[i:j]) || part.Len() != j-i || !has {
						t.Errorf("%s is %v, Len %d, %v", name, got, part.Len(), has)
					}
					checkMeasure(t, name, s, i, j, numbers[i:j])
				}
			}
			check(t, way, s, numbers)
		}
	}
}

// SQ1: a part is a sequence like any other.
func TestPartOfPart(t *testing.T) {
	numbers := samples.Many(18)
	for i := range numbers {
		for j := i + 1; j <= len(numbers); j++ {
			part, _ := Of(numbers).Slice(i, j)
			want := numbers[i:j]
			middle := (j - i) / 2
			name := fmt.Sprintf("Slice(%d, %d)", i, j)
			got, has := part.Slice(middle, j-i)
			checkFound(t, name+", Slice", got, has, want[middle:])
			got, has = part.Slice(0, middle)
			checkFound(t, name+", Slice", got, has, want[:middle])
			got, has = part.Set(middle, 500)
			checkFound(t, name+", Set", got, has, set(want, middle, 500))
			got, has = part.Insert(middle, 500)
			checkFound(t, name+", Insert", got, has, inserted(want, middle, 500))
			got, has = part.Delete(middle)
			checkFound(t, name+", Delete", got, has, deleted(want, middle))
			_, has = part.At(j - i)
			if has {
				t.Errorf("%s has the number behind it", name)
			}
			check(t, name+", Join", part.Join(part), slices.Concat(want, want))
		}
	}
}

// SQ1: the measure of no numbers is not what comes with false.
func TestMeasureOfNone(t *testing.T) {
	for _, numbers := range samples.Lists() {
		for i := range len(numbers) + 1 {
			if got, has := Of(numbers).Measure(i, i); got != mono.None() || !has {
				t.Errorf("Measure(%d, %d) of %v is %v %v", i, i, numbers, got, has)
			}
		}
	}
}

// SQ1: two sequences of any lengths.
func TestJoin(t *testing.T) {
	numbers := samples.Many(50)
	for n := range numbers {
		for m := range numbers[n:] {
			a, b := numbers[:n], numbers[n:n+m]
			check(t, fmt.Sprintf("Join of %d and %d numbers", n, m), Of(a).Join(Of(b)), slices.Concat(a, b))
		}
	}
	for _, a := range samples.Lists() {
		for _, b := range samples.Lists() {
			check(t, fmt.Sprint("Join of ", a, b), Of(a).Join(Of(b)), slices.Concat(a, b))
		}
	}
}

// SQ1, P1: there is no index below 0 or from Len on, but Insert takes Len; beside false are 0 and the empty sequence.
func TestOutside(t *testing.T) {
	for _, numbers := range samples.Lists() {
		n := len(numbers)
		s := Of(numbers)
		for _, i := range samples.Outside(n) {
			name := fmt.Sprintf("(%d) of %v", i, numbers)
			if x, has := s.At(i); x != 0 || has {
				t.Errorf("At%s is %d %v, want 0 false", name, x, has)
			}
			got, has := s.Set(i, 9)
			checkNone(t, "Set"+name, got, has)
			got, has = s.Delete(i)
			checkNone(t, "Delete"+name, got, has)
			if i != n {
				got, has = s.Insert(i, 9)
				checkNone(t, "Insert"+name, got, has)
			}
		}
		check(t, "the sequence", s, numbers)
	}
}

// SQ1, P1: no part begins behind its end, below 0 or behind Len, or ends there; beside false are the empty sequence and
// the zero measure.
func TestPartsOutside(t *testing.T) {
	for _, numbers := range samples.Lists() {
		n := len(numbers)
		s := Of(numbers)
		ends := append(samples.Outside(n), samples.Rising(n+1)...)
		for _, i := range ends {
			for _, j := range ends {
				if 0 <= i && i <= j && j <= n {
					continue
				}
				got, has := s.Slice(i, j)
				if has || got.Len() != 0 || len(got.Ints()) != 0 {
					t.Errorf("Slice(%d, %d) of %v is %v %v", i, j, numbers, got.Ints(), has)
				}
				m, has := s.Measure(i, j)
				if has || m != (api.Measure{}) {
					t.Errorf("Measure(%d, %d) of %v is %v %v", i, j, numbers, m, has)
				}
			}
		}
		part, has := s.Slice(n, n+1)
		checkNone(t, "Slice", part, has)
		check(t, "the sequence", s, numbers)
	}
}

// SQ1: however all methods alternate, and whatever was made of a sequence before.
func TestAllWays(t *testing.T) {
	const depth = 4
	var walk func(s Seq, want []int, steps int)
	walk = func(s Seq, want []int, steps int) {
		check(t, "before", s, want)
		if steps == depth {
			return
		}
		n := len(want)
		for _, i := range []int{0, n / 2, n} {
			longer, _ := s.Insert(i, 100+steps)
			walk(longer, inserted(want, i, 100+steps), steps+1)
			shorter, _ := s.Delete(i)
			changed, has := s.Set(i, 200+steps)
			if i < n {
				walk(shorter, deleted(want, i), steps+1)
				walk(changed, set(want, i, 200+steps), steps+1)
			} else if has {
				t.Errorf("there is an index %d of %d numbers", i, n)
			}
		}
		part, _ := s.Slice(n/3, n-n/3)
		walk(part, want[n/3:n-n/3], steps+1)
		walk(part.Join(s), slices.Concat(want[n/3:n-n/3], want), steps+1)
		check(t, "behind", s, want)
	}
	walk(Seq{}, nil, 0)
	walk(Of(samples.Rising(11)), samples.Rising(11), 0)
}

// P2: Of neither changes nor keeps its argument, nor the memory behind its length.
func TestOfKeepsArgument(t *testing.T) {
	whole := []int{4, -9, 2, 6, 77, 78}
	before := slices.Clone(whole)
	s := Of(whole[:4])
	longer, has := s.Insert(4, 1)
	checkFound(t, "Insert", longer, has, []int{4, -9, 2, 6, 1})
	if !slices.Equal(whole, before) {
		t.Errorf("the argument is changed: %v", whole)
	}
	clear(whole)
	check(t, "the argument cleared", s, []int{4, -9, 2, 6})
}

// P2: each call of Ints returns memory of its own, and the sequence keeps none of it.
func TestIntsAreNew(t *testing.T) {
	for _, numbers := range samples.Lists() {
		s := Of(numbers)
		a, b := s.Ints(), s.Ints()
		clear(a[:cap(a)])
		_ = append(a[:0], 70, 71, 72)
		if !slices.Equal(b, numbers) {
			t.Errorf("the other numbers are changed: %v, want %v", b, numbers)
		}
		check(t, "the sequence", s, numbers)
	}
}

// P2: no method changes its receiver or the other sequence; what was made of one sequence does not meet.
func TestPersistence(t *testing.T) {
	for n := 1; n < 60; n++ {
		numbers := samples.Many(n)
		half := n / 2
		s, other := Of(numbers), Of([]int{5, 3, 8})
		one, _ := s.Insert(half, 1)
		two, _ := s.Insert(half, 2)
		three, _ := s.Set(half, 3)
		four, _ := s.Set(half, 4)
		rest, _ := s.Delete(half)
		left, _ := s.Slice(0, half)
		right, _ := s.Slice(half, n)
		five, _ := left.Insert(half, 5)
		six, _ := right.Insert(0, 6)
		s.Measure(half, n)
		made := []struct {
			s    Seq
			want []int
		}{
			{s, numbers},
			{other, []int{5, 3, 8}},
			{one, inserted(numbers, half, 1)},
			{two, inserted(numbers, half, 2)},
			{three, set(numbers, half, 3)},
			{four, set(numbers, half, 4)},
			{rest, deleted(numbers, half)},
			{left, numbers[:half]},
			{right, numbers[half:]},
			{five, inserted(numbers[:half], half, 5)},
			{six, inserted(numbers[half:], 0, 6)},
			{s.Join(other), slices.Concat(numbers, []int{5, 3, 8})},
			{other.Join(s), slices.Concat([]int{5, 3, 8}, numbers)},
			{right.Join(left), slices.Concat(numbers[half:], numbers[:half])},
		}
		for i, m := range made {
			check(t, fmt.Sprintf("%d of %d numbers", i, n), m.s, m.want)
		}
	}
}

// P1: a sequence of many numbers needs no more stack than a small one, and no pass over it at every step.
func TestLong(t *testing.T) {
	defer debug.SetMaxStack(debug.SetMaxStack(1 << 20))
	const n = 1 << 18
	numbers := samples.Rising(n)
	s := Of(numbers)
	changed := s
	const steps = 1 << 13
	for i := range steps {
		at := i * 7919 % n
		if x, has := s.At(at); x != at || !has {
			t.Fatalf("At(%d) is %d %v", at, x, has)
		}
		// The numbers from at on are the last n - at, and each of them is greater by 1 than the one before it.
		if m, has := s.Measure(at, n); m.Sum != (n-at)*(at+n-1)/2 || m.Least != at || m.Most != n-1 || !has {
			t.Fatalf("Measure(%d, %d) is %v %v", at, n, m, has)
		}
		changed, _ = changed.Set(at, -1)
		changed, _ = changed.Insert(at, -2)
		changed, _ = changed.Delete(at)
	}
	want := slices.Clone(numbers)
	for i := range steps {
		want[i*7919%n] = -1
	}
	if !slices.Equal(changed.Ints(), want) {
		t.Error("the changed sequence has other numbers")
	}
	if !slices.Equal(s.Ints(), numbers) {
		t.Error("the sequence is changed")
	}
}

// P1: a sequence of very many numbers, made of few, is read and changed anywhere.
func TestShared(t *testing.T) {
	const doublings = 29
	const n = 3 << doublings
	s := Of([]int{5, 3, 8})
	whole := mono.Of([]int{5, 3, 8})
	for range doublings {
		s = s.Join(s)
		whole = mono.Join(whole, whole)
	}
	if got, has := s.Measure(0, n); got != whole || s.Len() != n || !has {
		t.Errorf("Measure %v %v, want %v", got, has, whole)
	}
	for _, i := range []int{0, n / 3, n / 2, n - 7} {
		i -= i % 3
		longer, _ := s.Insert(i+1, 7)
		shorter, _ := s.Delete(i + 1)
		changed, _ := s.Set(i+1, 7)
		for want, made := range map[[4]int]Seq{{5, 3, 8, 5}: s, {5, 7, 3, 8}: longer, {5, 8, 5, 3}: shorter, {5, 7, 8, 5}: changed} {
			part, has := made.Slice(i, i+4)
			checkFound(t, fmt.Sprint("from ", i), part, has, want[:])
		}
		if longer.Len() != n+1 || shorter.Len() != n-1 || changed.Len() != n {
			t.Errorf("at %d: Len %d, %d, %d", i, longer.Len(), shorter.Len(), changed.Len())
		}
	}
	x, has := s.At(n)
	if x != 0 || has {
		t.Errorf("At(%d) is %d %v", n, x, has)
	}
}

func ExampleSeq() {
	s := Of([]int{5, 3, 8})
	longer, has := s.Insert(1, 7)
	fmt.Println(s.Ints(), longer.Ints(), has)
	// Output: [5 3 8] [5 7 3 8] true
}

func ExampleSeq_Slice() {
	s := Of([]int{5, 3, 8, 1})
	part, has := s.Slice(1, 3)
	fmt.Println(part.Ints(), has)
	_, has = s.Slice(2, 1)
	fmt.Println(has)
	// Output:
	// [3 8] true
	// false
}

func ExampleSeq_Measure() {
	m, has := Of([]int{5, 3, 8, 1}).Measure(1, 3)
	fmt.Println(m.N, m.Sum, m.Least, m.Most, has)
	// Output: 2 11 3 8 true
}
