package red

import (
	"fmt"
	"testing"

	"wattlework/samples"
)

// with returns the set that comes about as the numbers are put one by one.
func with(numbers ...int) Set {
	var s Set
	for _, x := range numbers {
		s = s.Put(x)
	}
	return s
}

// RB2: each way in which colours are kept right, worked by hand.
func TestColours(t *testing.T) {
	// What 1 to 6 make: a red number on the right, over black ones.
	up, down := with(1, 2, 3, 4, 5, 6), with(6, 5, 4, 3, 2, 1)
	for _, test := range []struct {
		name string
		set  Set
		want string
	}{
		{"one", with(1), "[{1 -1 -1 0}]"},
		{"red below black", with(2, 1, 3), "[{2 1 2 0} {1 -1 -1 1} {3 -1 -1 1}]"},
		{"left outer, put", with(3, 2, 1), "[{2 1 2 0} {1 -1 -1 0} {3 -1 -1 0}]"},
		{"left inner, put", with(3, 1, 2), "[{2 1 2 0} {1 -1 -1 0} {3 -1 -1 0}]"},
		{"right outer, put", with(1, 2, 3), "[{2 1 2 0} {1 -1 -1 0} {3 -1 -1 0}]"},
		{"right inner, put", with(1, 3, 2), "[{2 1 2 0} {1 -1 -1 0} {3 -1 -1 0}]"},
		{"red on both sides, put", with(2, 1, 3, 0), "[{1 1 2 0} {0 -1 -1 0} {2 -1 3 0} {3 -1 -1 1}]"},
		{"six up", up, "[{2 1 2 0} {1 -1 -1 0} {4 3 4 1} {3 -1 -1 0} {5 -1 5 0} {6 -1 -1 1}]"},
		{"six down", down, "[{5 1 5 0} {3 2 4 1} {2 3 -1 0} {1 -1 -1 1} {4 -1 -1 0} {6 -1 -1 0}]"},

		{"red, dropped", with(2, 1, 3).Drop(1), "[{2 -1 1 0} {3 -1 -1 1}]"},
		{"over red on the left, dropped", with(2, 1).Drop(2), "[{1 -1 -1 0}]"},
		{"over red on the right, dropped", with(1, 2).Drop(1), "[{2 -1 -1 0}]"},
		{"over red on both sides, dropped", with(2, 1, 3).Drop(2), "[{3 1 -1 0} {1 -1 -1 1}]"},
		{"left of black, dropped", with(1, 2, 3).Drop(1), "[{2 -1 1 0} {3 -1 -1 1}]"},
		{"right of black, dropped", with(1, 2, 3).Drop(3), "[{2 1 -1 0} {1 -1 -1 1}]"},
		{"over black on both sides, dropped", with(1, 2, 3).Drop(2), "[{3 1 -1 0} {1 -1 -1 1}]"},
		{"right outer, dropped", with(1, 2, 3, 4).Drop(1), "[{3 1 2 0} {2 -1 -1 0} {4 -1 -1 0}]"},
		{"right inner, dropped", with(1, 2, 4, 3).Drop(1), "[{3 1 2 0} {2 -1 -1 0} {4 -1 -1 0}]"},
		{"left outer, dropped", with(4, 3, 2, 1).Drop(4), "[{2 1 2 0} {1 -1 -1 0} {3 -1 -1 0}]"},
		{"left inner, dropped", with(4, 3, 1, 2).Drop(4), "[{2 1 2 0} {1 -1 -1 0} {3 -1 -1 0}]"},
		{"left of red, dropped", up.Drop(1), "[{4 1 3 0} {2 -1 2 0} {3 -1 -1 1} {5 -1 4 0} {6 -1 -1 1}]"},
		{"right of red, dropped", down.Drop(6), "[{3 1 3 0} {2 2 -1 0} {1 -1 -1 1} {5 4 -1 0} {4 -1 -1 1}]"},
		// What is above was red, and makes up for what is dropped.
		{"left below red, dropped", up.Drop(6).Drop(3), "[{2 1 2 0} {1 -1 -1 0} {4 -1 3 0} {5 -1 -1 1}]"},
		{"left below red, outer, dropped", up.Drop(3), "[{2 1 2 0} {1 -1 -1 0} {5 3 4 1} {4 -1 -1 0} {6 -1 -1 0}]"},
		{"right below red, dropped", down.Drop(1).Drop(4), "[{5 1 3 0} {3 2 -1 0} {2 -1 -1 1} {6 -1 -1 0}]"},
		{"right below red, outer, dropped", down.Drop(4), "[{5 1 4 0} {2 2 3 1} {1 -1 -1 0} {3 -1 -1 0} {6 -1 -1 0}]"},
		// All numbers are black, so every path has one black number less up to the root.
		{"least of seven, dropped", Of(samples.Rising(7)).Drop(0), "[{3 1 3 0} {1 -1 2 0} {2 -1 -1 1} {5 4 5 1} {4 -1 -1 0} {6 -1 -1 0}]"},
		{"greatest of seven, dropped", Of(samples.Rising(7)).Drop(6), "[{3 1 4 0} {1 2 3 1} {0 -1 -1 0} {2 -1 -1 0} {5 5 -1 0} {4 -1 -1 1}]"},
	} {
		if got := fmt.Sprint(test.set.Shape()); got != test.want {
			t.Errorf("%s: Shape %v, want %v", test.name, got, test.want)
		}
	}
}

func ExampleSet() {
	s := Of([]int{2, 4, 1, 3, 2})
	fmt.Println(s.Ints(), s.Has(4), s.Drop(4).Ints(), s.Put(5).Len())
	fmt.Println(s.Shape())
	// Output:
	// [1 2 3 4] true [1 2 3] 5
	// [{3 1 3 0} {2 2 -1 0} {1 -1 -1 1} {4 -1 -1 0}]
}
