package avl

import (
	"fmt"
	"slices"
	"testing"

	"wattlework/api"
)

// AV2: three numbers have only one tree, in whatever order they come, and whichever is dropped beside them.
func TestThree(t *testing.T) {
	want := []api.Node{{Key: 2, Left: 1, Right: 2, Mark: 2}, {Key: 1, Left: -1, Right: -1, Mark: 1}, {Key: 3, Left: -1, Right: -1, Mark: 1}}
	for _, l := range [][]int{{1, 2, 3}, {1, 3, 2}, {2, 1, 3}, {2, 3, 1}, {3, 1, 2}, {3, 2, 1}} {
		var put Set
		for _, x := range l {
			put = put.Put(x)
		}
		for name, s := range map[string]Set{
			"Of":    Of(l),
			"Put":   put,
			"least": put.Put(0).Drop(0),
			"most":  put.Put(4).Drop(4),
			"both":  put.Put(0).Put(4).Put(5).Drop(4).Drop(0).Drop(5),
		} {
			if got := s.Shape(); !slices.Equal(got, want) {
				t.Errorf("%s%v: Shape %v, want %v", name, l, got, want)
			}
		}
	}
}

// AV2: each way in which one side gets too high, worked by hand.
func TestBalance(t *testing.T) {
	for _, test := range []struct {
		name string
		set  Set
		want string
	}{
		{"left outer, put", Set{}.Put(5).Put(7).Put(3).Put(2).Put(1), "[{5 1 4 3} {2 2 3 2} {1 -1 -1 1} {3 -1 -1 1} {7 -1 -1 1}]"},
		{"left inner, put", Set{}.Put(5).Put(7).Put(3).Put(1).Put(2), "[{5 1 4 3} {2 2 3 2} {1 -1 -1 1} {3 -1 -1 1} {7 -1 -1 1}]"},
		{"right outer, put", Set{}.Put(3).Put(1).Put(5).Put(6).Put(7), "[{3 1 2 3} {1 -1 -1 1} {6 3 4 2} {5 -1 -1 1} {7 -1 -1 1}]"},
		{"right inner, put", Set{}.Put(3).Put(1).Put(5).Put(7).Put(6), "[{3 1 2 3} {1 -1 -1 1} {6 3 4 2} {5 -1 -1 1} {7 -1 -1 1}]"},
		{"left outer, dropped", Set{}.Put(3).Put(2).Put(4).Put(1).Drop(4), "[{2 1 2 2} {1 -1 -1 1} {3 -1 -1 1}]"},
		{"left inner, dropped", Set{}.Put(3).Put(1).Put(4).Put(2).Drop(4), "[{2 1 2 2} {1 -1 -1 1} {3 -1 -1 1}]"},
		{"right outer, dropped", Set{}.Put(2).Put(1).Put(3).Put(4).Drop(1), "[{3 1 2 2} {2 -1 -1 1} {4 -1 -1 1}]"},
		{"right inner, dropped", Set{}.Put(2).Put(1).Put(4).Put(3).Drop(1), "[{3 1 2 2} {2 -1 -1 1} {4 -1 -1 1}]"},
		// Both trees below 4 have the same height, so neither of them is divided.
		{"left even, dropped", Set{}.Put(6).Put(4).Put(7).Put(3).Put(5).Drop(7), "[{4 1 2 3} {3 -1 -1 1} {6 3 -1 2} {5 -1 -1 1}]"},
		{"right even, dropped", Set{}.Put(2).Put(1).Put(4).Put(3).Put(5).Drop(1), "[{4 1 3 3} {2 -1 2 2} {3 -1 -1 1} {5 -1 -1 1}]"},
		// What was below on both sides is put together under its next number.
		{"root, dropped", Set{}.Put(4).Put(2).Put(6).Put(1).Put(3).Put(5).Put(7).Drop(4), "[{5 1 4 3} {2 2 3 2} {1 -1 -1 1} {3 -1 -1 1} {6 -1 5 2} {7 -1 -1 1}]"},
	} {
		if got := fmt.Sprint(test.set.Shape()); got != test.want {
			t.Errorf("%s: Shape %v, want %v", test.name, got, test.want)
		}
	}
}

func ExampleSet() {
	s := Of([]int{5, 3, 8, 3})
	more := s.Put(4)
	fmt.Println(s.Ints(), more.Ints(), more.Drop(5).Ints(), s.Has(4), more.Has(4), more.Len())
	// Output: [3 5 8] [3 4 5 8] [3 4 8] false true 4
}

func ExampleSet_Shape() {
	fmt.Println(Of([]int{1, 2, 3}).Shape())
	// Output: [{2 1 2 2} {1 -1 -1 1} {3 -1 -1 1}]
}
