package win

import (
	"math"
	"slices"
	"testing"

	"heartwood/api"
)

// ramp returns the values 1 to count.
func ramp(count int) []int {
	l := make([]int, count)
	for i := range l {
		l[i] = i + 1
	}
	return l
}

// strangers are numbers that are not values.
func strangers() []int {
	return []int{math.MinInt, -api.MaxVal, -2, -1, api.MaxVal + 1, api.MaxVal + 2, 1 << 25, 1<<32 + 5, math.MaxInt}
}

func TestListLengths(t *testing.T) {
	for count := range 200 {
		want := api.OK
		if count > 64 {
			want = api.ErrLarge
		}
		if errno := List(make([]int, count)); errno != want {
			t.Errorf("List of %d numbers: %d; want %d", count, errno, want)
		}
	}
	if errno := List(nil); errno != api.OK {
		t.Errorf("List(nil) = %d", errno)
	}
}

func TestListValues(t *testing.T) {
	for _, n := range []int{0, 1, 2, 1000, api.MaxVal - 1, api.MaxVal} {
		if errno := List([]int{n}); errno != api.OK {
			t.Errorf("List of %d: %d; want OK", n, errno)
		}
	}
	if errno := List(slices.Repeat([]int{api.MaxVal}, 64)); errno != api.OK {
		t.Errorf("List of the greatest values: %d; want OK", errno)
	}
}

// A wrong number is found wherever it is, and a list that is too long is
// reported first.
func TestListStrangers(t *testing.T) {
	for _, n := range strangers() {
		for _, count := range []int{1, 2, 63, 64, 65, 100} {
			want := api.ErrArg
			if count > 64 {
				want = api.ErrLarge
			}
			for at := range count {
				l := ramp(count)
				l[at] = n
				if errno := List(l); errno != want {
					t.Errorf("List of %d numbers with %d at %d: %d; want %d", count, n, at, errno, want)
				}
			}
		}
	}
}

// What lies behind the end of a list is not part of it.
func TestListSpareCapacity(t *testing.T) {
	l := append(ramp(64), -1)
	if errno := List(l[:64]); errno != api.OK {
		t.Errorf("List = %d; want OK", errno)
	}
}

func TestCheckRows(t *testing.T) {
	for _, r := range []struct {
		name string
		w    api.Window
		want api.Errno
	}{
		{"empty", api.Window{Cap: 1}, api.OK},
		{"empty, not nil", api.Window{Cap: 64, Vals: []int{}}, api.OK},
		{"full with 1", api.Window{Cap: 1, Vals: []int{7}}, api.OK},
		{"full with 64", api.Window{Cap: 64, Vals: ramp(64)}, api.OK},
		{"half full", api.Window{Cap: 6, Vals: []int{0, api.MaxVal, 0}}, api.OK},
		{"zero", api.Window{}, api.ErrArg},
		{"Cap 0 with values", api.Window{Vals: []int{1}}, api.ErrArg},
		{"Cap 0 with a stranger", api.Window{Vals: []int{-1}}, api.ErrArg},
		{"Cap -1", api.Window{Cap: -1}, api.ErrArg},
		{"least Cap", api.Window{Cap: math.MinInt, Vals: ramp(3)}, api.ErrArg},
		{"Cap 65", api.Window{Cap: 65}, api.ErrArg},
		{"Cap 65 with 65 values", api.Window{Cap: 65, Vals: ramp(65)}, api.ErrArg},
		{"Cap 65 with 66 values", api.Window{Cap: 65, Vals: ramp(66)}, api.ErrArg},
		{"greatest Cap", api.Window{Cap: math.MaxInt, Vals: ramp(100)}, api.ErrArg},
		{"Cap 2^32 + 1", api.Window{Cap: 1<<32 + 1}, api.ErrArg},
		{"one more than Cap", api.Window{Cap: 2, Vals: []int{1, 2, 3}}, api.ErrLarge},
		{"more than Cap, with a stranger", api.Window{Cap: 2, Vals: []int{-1, 2, 3}}, api.ErrLarge},
		{"65 values", api.Window{Cap: 64, Vals: ramp(65)}, api.ErrLarge},
		{"stranger", api.Window{Cap: 2, Vals: []int{1, -1}}, api.ErrArg},
		{"stranger in front", api.Window{Cap: 3, Vals: []int{api.MaxVal + 1, 1}}, api.ErrArg},
	} {
		if errno := Check(r.w); errno != r.want {
			t.Errorf("%s: Check = %d; want %d", r.name, errno, r.want)
		}
	}
}

func TestCheckLengths(t *testing.T) {
	for size := -2; size <= 70; size++ {
		for count := range 72 {
			want := api.OK
			if size < 1 || size > 64 {
				want = api.ErrArg
			} else if count > size {
				want = api.ErrLarge
			}
			if errno := Check(api.Window{Cap: size, Vals: ramp(count)}); errno != want {
				t.Errorf("Check of Cap %d with %d values: %d; want %d", size, count, errno, want)
			}
		}
	}
}

func equal(a, b api.Window) bool {
	return a.Cap == b.Cap && slices.Equal(a.Vals, b.Vals)
}

func TestPushRows(t *testing.T) {
	for _, r := range []struct {
		w    api.Window
		n    int
		want []int
	}{
		{api.Window{Cap: 2}, 3, []int{3}},
		{api.Window{Cap: 2, Vals: []int{3}}, 4, []int{3, 4}},
		{api.Window{Cap: 2, Vals: []int{3, 4}}, 5, []int{4, 5}},
		{api.Window{Cap: 1}, 0, []int{0}},
		{api.Window{Cap: 1, Vals: []int{9}}, 0, []int{0}},
		{api.Window{Cap: 3, Vals: []int{9, 9, 9}}, 9, []int{9, 9, 9}},
		{api.Window{Cap: 3, Vals: []int{8, 1, 5}}, api.MaxVal, []int{1, 5, api.MaxVal}},
		{api.Window{Cap: 64, Vals: ramp(63)}, 64, ramp(64)},
		{api.Window{Cap: 64, Vals: ramp(64)}, 65, ramp(65)[1:]},
	} {
		got, errno := Push(r.w, r.n)
		if !equal(got, api.Window{Cap: r.w.Cap, Vals: r.want}) || errno != api.OK {
			t.Errorf("Push(%v, %d) = %v, %d; want %v", r.w, r.n, got, errno, r.want)
		}
	}
}

// After any number of pushes a window contains the last of them.
func TestPushKeepsTheLast(t *testing.T) {
	pushed := ramp(200)
	for size := 1; size <= 64; size++ {
		w := api.Window{Cap: size}
		for i, n := range pushed {
			var errno api.Errno
			w, errno = Push(w, n)
			want := pushed[max(0, i+1-size) : i+1]
			if !equal(w, api.Window{Cap: size, Vals: want}) || errno != api.OK {
				t.Fatalf("Cap %d after %d pushes: %v, %d; want %v", size, i+1, w, errno, want)
			}
		}
	}
}

func TestPushErrors(t *testing.T) {
	for _, r := range []struct {
		name string
		w    api.Window
		n    int
		want api.Errno
	}{
		{"zero", api.Window{}, 1, api.ErrArg},
		{"Cap 65", api.Window{Cap: 65, Vals: ramp(65)}, 1, api.ErrArg},
		{"more than Cap", api.Window{Cap: 2, Vals: ramp(3)}, 1, api.ErrLarge},
		{"more than Cap, and no value", api.Window{Cap: 2, Vals: ramp(3)}, -1, api.ErrLarge},
		{"stranger", api.Window{Cap: 2, Vals: []int{5, -5}}, 1, api.ErrArg},
		// The stranger would be removed, but Check comes first.
		{"stranger in front of a full window", api.Window{Cap: 2, Vals: []int{-5, 5}}, 1, api.ErrArg},
	} {
		if got, errno := Push(r.w, r.n); !equal(got, api.Window{}) || errno != r.want {
			t.Errorf("%s: Push = %v, %d; want %d", r.name, got, errno, r.want)
		}
	}
	for _, n := range strangers() {
		for _, w := range []api.Window{{Cap: 1}, {Cap: 2, Vals: []int{3, 4}}, {Cap: 64, Vals: ramp(63)}} {
			if got, errno := Push(w, n); !equal(got, api.Window{}) || errno != api.ErrArg {
				t.Errorf("Push(%v, %d) = %v, %d; want ErrArg", w, n, got, errno)
			}
		}
	}
}

// The argument is neither changed nor shared, its spare capacity included.
func TestPushMemory(t *testing.T) {
	for count := range 5 {
		memory := []int{11, 12, 13, 14, 15, 16}
		before := slices.Clone(memory)
		w := api.Window{Cap: 4, Vals: memory[:count]}
		first, _ := Push(w, 21)
		second, _ := Push(w, 22)
		if !slices.Equal(memory, before) {
			t.Errorf("%d values: Push changed its argument to %v", count, memory)
		}
		wanted := slices.Clone(second.Vals)
		for i := range first.Vals[:cap(first.Vals)] {
			first.Vals[:cap(first.Vals)][i] = -7
		}
		if !slices.Equal(memory, before) || !slices.Equal(second.Vals, wanted) {
			t.Errorf("%d values: a result shares memory: %v, %v", count, memory, second.Vals)
		}
	}
}

func TestChecksChangeNothing(t *testing.T) {
	memory := []int{3, 1, 2, -9, -9}
	before := slices.Clone(memory)
	List(memory[:3])
	Check(api.Window{Cap: 3, Vals: memory[:3]})
	Check(api.Window{Cap: 5, Vals: memory})
	Push(api.Window{Cap: 5, Vals: memory}, 1)
	if !slices.Equal(memory, before) {
		t.Errorf("the argument became %v", memory)
	}
}
