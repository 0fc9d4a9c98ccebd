package skew

import (
	"errors"
	"fmt"
	"math/big"
	"slices"
	"testing"

	"wattlework/api"
)

// digits are all the digits that there are, written out by doubling.
func digits() []int {
	l := []int{1}
	for len(l) < 40 {
		l = append(l, 2*l[len(l)-1]+1)
	}
	return l
}

// edges are values around powers of two, around the sums of two equal digits, and at both ends.
func edges() []int {
	l := []int{0, 1, 2, 3, 4, 5, 1<<40 - 3, 1<<40 - 2, 1<<40 - 1, 1 << 40}
	for k := 2; k < 40; k++ {
		for step := -3; step <= 3; step++ {
			l = append(l, max(0, 1<<k+step))
		}
	}
	for i := range 200 {
		l = append(l, i*i*i*7919*131%(1<<40))
	}
	return l
}

// wrong are lists that are not skew digits, each of them for one reason.
func wrong() map[string][]int {
	return map[string][]int{
		"zero":                    {0},
		"zero in front":           {0, 1},
		"zero at the end":         {1, 3, 0},
		"negative one":            {-1},
		"negative digit":          {-3, 1},
		"least":                   {api.Least},
		"greatest":                {api.Greatest},
		"greatest at the end":     {1, 3, api.Greatest},
		"power of two":            {2},
		"power of two in between": {1, 2, 3},
		"one more than a digit":   {1, 3, 8},
		"one less than a digit":   {1, 3, 6},
		"41 ones":                 {1<<41 - 1},
		"41 ones at the end":      {1, 1<<40 - 1, 1<<41 - 1},
		"2^40":                    {1 << 40},
		"62 ones":                 {1<<62 - 1},
		"falling":                 {3, 1},
		"falling at the end":      {1, 3, 7, 3},
		"falling after equals":    {3, 3, 1},
		"falling to equal":        {1, 3, 1},
		"equal second and third":  {1, 3, 3},
		"equal last ones":         {1, 3, 7, 7},
		"three equal ones":        {1, 1, 1},
		"two pairs":               {1, 1, 3, 3},
		"three equal greatest":    {1<<40 - 1, 1<<40 - 1, 1<<40 - 1},
	}
}

// isForm tells whether the list is skew digits, in the words of SK1.
func isForm(l []int) bool {
	for i, d := range l {
		if !slices.Contains(digits(), d) {
			return false
		}
		if i > 0 && d < l[i-1] {
			return false
		}
		if i > 1 && d == l[i-1] {
			return false
		}
	}
	return true
}

// lists calls do for every list of at most length numbers out of those given.
func lists(numbers []int, length int, do func([]int)) {
	var walk func(l []int)
	walk = func(l []int) {
		do(l)
		if len(l) == length {
			return
		}
		for _, x := range numbers {
			walk(append(slices.Clip(l), x))
		}
	}
	walk(nil)
}

// same fails the test unless the digits and the error are the wanted ones.
func same(t *testing.T, name string, got []int, err error, want []int, wantErr error) {
	t.Helper()
	if !slices.Equal(got, want) || !errors.Is(err, wantErr) {
		t.Errorf("%s: %v %v, want %v %v", name, got, err, want, wantErr)
	}
}

// wantForm fails the test unless the four functions that take digits report ErrForm, and nothing else.
func wantForm(t *testing.T, name string, l []int) {
	t.Helper()
	if err := Check(l); !errors.Is(err, api.ErrForm) {
		t.Errorf("Check of %s: %v", name, err)
	}
	if v, err := Value(l); v != 0 || !errors.Is(err, api.ErrForm) {
		t.Errorf("Value of %s: %d %v", name, v, err)
	}
	got, err := Inc(l)
	same(t, "Inc of "+name, got, err, nil, api.ErrForm)
	got, err = Dec(l)
	same(t, "Dec of "+name, got, err, nil, api.ErrForm)
}

// SK1: every short list of small numbers, with all small digits among them.
func TestCheckAllShort(t *testing.T) {
	lists([]int{-1, 0, 1, 2, 3, 4, 6, 7, 8, 15}, 4, func(l []int) {
		if !isForm(l) {
			wantForm(t, fmt.Sprint(l), l)
		} else if err := Check(l); err != nil {
			t.Errorf("Check of %v: %v", l, err)
		}
	})
}

// SK1: each digit is one for every k from 1 to 40, and no number beside one.
func TestCheckOne(t *testing.T) {
	for _, d := range digits() {
		for _, l := range [][]int{{d}, {d, d}} {
			if err := Check(l); err != nil {
				t.Errorf("Check of %v: %v", l, err)
			}
		}
		for _, x := range []int{d + 1, -d, -d - 1} {
			wantForm(t, fmt.Sprint(x), []int{x})
		}
		if d > 3 {
			wantForm(t, fmt.Sprint(d-1), []int{d - 1})
		}
	}
}

// SK1: what is wrong is found wherever it is, and for whatever reason. SK2: Inc and Dec report it too.
func TestCheckWrong(t *testing.T) {
	for name, l := range wrong() {
		wantForm(t, name, l)
	}
}

// SK1: no digits at all are digits, with the value 0.
func TestNone(t *testing.T) {
	for _, l := range [][]int{nil, {}} {
		if err := Check(l); err != nil {
			t.Errorf("Check: %v", err)
		}
		if v, err := Value(l); v != 0 || err != nil {
			t.Errorf("Value: %d %v", v, err)
		}
	}
}

// SK1: the value is the sum, also of digits whose value is above that of any list of Digits.
func TestValue(t *testing.T) {
	all := digits()
	last := all[39]
	for _, l := range [][]int{
		{1}, {3}, {1, 1}, {1, 3}, {3, 3, 7}, {7, 7, 31}, {1, 1, 3, 7, 15},
		{last}, {last, last}, {1, last}, {1, 1, last}, {all[38], all[38], last},
		all, slices.Concat([]int{1}, all),
	} {
		want := new(big.Int)
		for _, d := range l {
			want.Add(want, big.NewInt(int64(d)))
		}
		if v, err := Value(l); big.NewInt(int64(v)).Cmp(want) != 0 || err != nil {
			t.Errorf("Value of %v: %d %v, want %v", l, v, err, want)
		}
	}
}

// SK2: every small number has one list of digits, which is found among all lists of digits.
func TestDigitsAllSmall(t *testing.T) {
	const end = 127
	found := map[int][]int{}
	lists([]int{1, 3, 7, 15, 31, 63}, 7, func(l []int) {
		if !isForm(l) {
			return
		}
		sum := 0
		for _, d := range l {
			sum += d
		}
		if other, has := found[sum]; has && sum < end {
			t.Fatalf("%v and %v have the same value", other, l)
		}
		found[sum] = slices.Clone(l)
	})
	for n := range end {
		got, err := Digits(n)
		same(t, fmt.Sprint("Digits of ", n), got, err, found[n], nil)
	}
}

// SK2: the digits are of the form, and have the value, for numbers of all sizes.
func TestDigitsEdges(t *testing.T) {
	for _, n := range edges() {
		l, err := Digits(n)
		if err != nil || !isForm(l) || Check(l) != nil {
			t.Errorf("Digits of %d: %v %v", n, l, err)
		}
		if v, err := Value(l); v != n || err != nil {
			t.Errorf("Value of Digits of %d: %d %v", n, v, err)
		}
	}
}

// SK2: the ends of the range, and the numbers beside them.
func TestDigitsRange(t *testing.T) {
	const last = 1<<40 - 1
	for _, c := range []struct {
		n    int
		want []int
		err  error
	}{
		{0, nil, nil},
		{-1, nil, api.ErrRange},
		{api.Least, nil, api.ErrRange},
		{last - 1, []int{last / 2, last / 2}, nil},
		{last, []int{last}, nil},
		{1 << 40, []int{1, last}, nil},
		{1<<40 + 1, nil, api.ErrRange},
		{1<<41 - 1, nil, api.ErrRange},
		{api.Greatest, nil, api.ErrRange},
	} {
		got, err := Digits(c.n)
		same(t, fmt.Sprint("Digits of ", c.n), got, err, c.want, c.err)
	}
}

// SK2: Inc and Dec give the digits beside those of a number.
func TestIncDec(t *testing.T) {
	small := make([]int, 3000)
	for n := range small {
		small[n] = n
	}
	for _, n := range slices.Concat(small, edges()) {
		l, _ := Digits(n)
		more, moreErr := Digits(n + 1)
		got, err := Inc(l)
		same(t, fmt.Sprint("Inc of ", l), got, err, more, moreErr)
		less, lessErr := Digits(n - 1)
		got, err = Dec(l)
		same(t, fmt.Sprint("Dec of ", l), got, err, less, lessErr)
	}
}

// SK2: Inc and Dec carry from one digit to another, worked out by hand.
func TestIncDecCarry(t *testing.T) {
	const last = 1<<40 - 1
	for _, c := range []struct{ less, more []int }{
		{nil, []int{1}},
		{[]int{1}, []int{1, 1}},
		{[]int{1, 1}, []int{3}},
		{[]int{3}, []int{1, 3}},
		{[]int{1, 1, 3}, []int{3, 3}},
		{[]int{3, 3}, []int{7}},
		{[]int{3, 3, 7}, []int{7, 7}},
		{[]int{7, 7, 31}, []int{15, 31}},
		{[]int{last / 2, last / 2}, []int{last}},
		{[]int{last}, []int{1, last}},
	} {
		got, err := Inc(c.less)
		same(t, fmt.Sprint("Inc of ", c.less), got, err, c.more, nil)
		got, err = Dec(c.more)
		same(t, fmt.Sprint("Dec of ", c.more), got, err, c.less, nil)
	}
}

// SK2: a value beside the range is ErrRange, and the last value within it is not.
func TestIncDecRange(t *testing.T) {
	const last = 1<<40 - 1
	for _, c := range []struct {
		l                []int
		more, less       []int
		moreErr, lessErr error
	}{
		{nil, []int{1}, nil, nil, api.ErrRange},
		{[]int{}, []int{1}, nil, nil, api.ErrRange},
		{[]int{1, last}, nil, []int{last}, api.ErrRange, nil},
		{[]int{1, 1, last}, nil, []int{1, last}, api.ErrRange, nil},
		{[]int{3, last}, nil, nil, api.ErrRange, api.ErrRange},
		{[]int{last, last}, nil, nil, api.ErrRange, api.ErrRange},
		{digits(), nil, nil, api.ErrRange, api.ErrRange},
	} {
		got, err := Inc(c.l)
		same(t, fmt.Sprint("Inc of ", c.l), got, err, c.more, c.moreErr)
		got, err = Dec(c.l)
		same(t, fmt.Sprint("Dec of ", c.l), got, err, c.less, c.lessErr)
	}
}

// P2: no function changes its argument or the memory behind it, and no result is memory of it.
func TestArguments(t *testing.T) {
	for _, given := range [][]int{{}, {1}, {1, 1}, {3}, {1, 3}, {3, 3, 7}, {7, 31}, {3, 1}, {2, 2}} {
		memory := append(slices.Clone(given), 90, 91, 92, 93)
		before := slices.Clone(memory)
		l := memory[:len(given)]
		more, _ := Inc(l)
		less, _ := Dec(l)
		_, _ = Value(l)
		_ = Check(l)
		clear(more[:cap(more)])
		clear(less[:cap(less)])
		if !slices.Equal(memory, before) {
			t.Errorf("the argument %v is now %v", before, memory)
		}
	}
}

// P2: each call returns memory of its own.
func TestResultsAreNew(t *testing.T) {
	for _, call := range []func() ([]int, error){
		func() ([]int, error) { return Digits(5) },
		func() ([]int, error) { return Inc([]int{1, 3}) },
		func() ([]int, error) { return Dec([]int{3, 3}) },
	} {
		a, _ := call()
		b, _ := call()
		clear(a[:cap(a)])
		c, err := call()
		same(t, "the other result", b, nil, []int{1, 1, 3}, nil)
		same(t, "a later result", c, err, []int{1, 1, 3}, nil)
	}
}

// P1: a list may be long, though one of that length is never of the form.
func TestLong(t *testing.T) {
	l := make([]int, 1<<20)
	for i := range l {
		l[i] = 1
	}
	wantForm(t, "a million ones", l)
}

func ExampleDigits() {
	fmt.Println(Digits(5))
	// Output: [1 1 3] <nil>
}

func ExampleInc() {
	fmt.Println(Inc([]int{3, 3, 7}))
	fmt.Println(Inc([]int{1, 3, 3}))
	// Output:
	// [7 7] <nil>
	// [] ErrForm
}
