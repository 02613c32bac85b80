package rank

import (
	"math"
	"math/rand/v2"
	"slices"
	"testing"

	"heartwood/api"
)

const most = api.MaxVal

// strangers are numbers that are not values.
func strangers() []int {
	return []int{math.MinInt, -most, -2, -1, most + 1, most + 2, 1<<32 + 5, math.MaxInt}
}

// ramp returns the values 1 to count, which are sorted.
func ramp(count int) []int {
	l := make([]int, count)
	for i := range l {
		l[i] = i + 1
	}
	return l
}

// lists returns the same lists on each run: of all lengths, with few and with
// many different values.
func lists(seed uint64, count int) [][]int {
	source := rand.New(rand.NewPCG(seed, 1))
	all := make([][]int, count)
	for i := range all {
		limit := 1 << source.IntN(25)
		l := make([]int, source.IntN(65))
		for k := range l {
			l[k] = source.IntN(limit + 1)
		}
		all[i] = l
	}
	return all
}

func checkList(t *testing.T, name string, got []int, errno api.Errno, want []int, wantErrno api.Errno) {
	t.Helper()
	if !slices.Equal(got, want) || errno != wantErrno {
		t.Errorf("%s: got %v, %d; want %v, %d", name, got, errno, want, wantErrno)
	}
}

func checkInt(t *testing.T, name string, got int, errno api.Errno, want int, wantErrno api.Errno) {
	t.Helper()
	if got != want || errno != wantErrno {
		t.Errorf("%s: got %d, %d; want %d, %d", name, got, errno, want, wantErrno)
	}
}

// All functions return the error of the list before any other, also before
// the one for its order.
func TestInvalidLists(t *testing.T) {
	for _, r := range []struct {
		l    []int
		want api.Errno
	}{
		{make([]int, 65), api.ErrLarge},
		{ramp(65), api.ErrLarge},
		{slices.Repeat([]int{-1}, 65), api.ErrLarge},
		{append(ramp(64), 3), api.ErrLarge},
		{make([]int, 1000), api.ErrLarge},
		{[]int{-1}, api.ErrArg},
		{[]int{most + 1}, api.ErrArg},
		{[]int{1, 2, -1}, api.ErrArg},
		{[]int{9, 1, most + 1}, api.ErrArg},
		{[]int{-1, 2, 3}, api.ErrArg},
		{append(ramp(63), math.MaxInt), api.ErrArg},
		{append([]int{math.MinInt}, ramp(63)...), api.ErrArg},
	} {
		got, errno := Sort(r.l)
		checkList(t, "Sort", got, errno, nil, r.want)
		for _, n := range []int{1, 2, 70, -1, most + 1} {
			got, errno = Put(r.l, n)
			checkList(t, "Put", got, errno, nil, r.want)
			got, errno = Cut(r.l, n)
			checkList(t, "Cut", got, errno, nil, r.want)
			sum, errno := Far(r.l, n)
			checkInt(t, "Far", sum, errno, 0, r.want)
			value, errno := Rank(r.l, 1, n)
			checkInt(t, "Rank", value, errno, 0, r.want)
		}
	}
}

func TestSortRows(t *testing.T) {
	falling := ramp(64)
	slices.Reverse(falling)
	for _, r := range []struct{ l, want []int }{
		{nil, nil},
		{[]int{}, nil},
		{[]int{7}, []int{7}},
		{[]int{5, 1, 9, 3}, []int{1, 3, 5, 9}},
		{[]int{3, 1, 3, 0, 1, 3}, []int{0, 1, 1, 3, 3, 3}},
		{[]int{most, 0, most}, []int{0, most, most}},
		{[]int{10, 9, 100}, []int{9, 10, 100}},
		{falling, ramp(64)},
		{slices.Repeat([]int{most}, 64), slices.Repeat([]int{most}, 64)},
	} {
		got, errno := Sort(r.l)
		checkList(t, "Sort", got, errno, r.want, api.OK)
	}
}

// slowSort counts for each value where it belongs, without a sort.
func slowSort(l []int) []int {
	out := make([]int, len(l))
	for i, v := range l {
		at := 0
		for k, w := range l {
			if w < v || w == v && k < i {
				at++
			}
		}
		out[at] = v
	}
	return out
}

func TestSortLists(t *testing.T) {
	for _, l := range lists(51, 2000) {
		got, errno := Sort(l)
		checkList(t, "Sort", got, errno, slowSort(l), api.OK)
	}
}

func TestRankRows(t *testing.T) {
	four := []int{5, 1, 9, 3}
	for _, r := range []struct {
		l        []int
		num, den int
		want     int
		errno    api.Errno
	}{
		{four, 1, 2, 3, api.OK},
		{four, 0, 1, 1, api.OK},
		{four, 0, 1000, 1, api.OK},
		{four, 1, 1000, 1, api.OK},
		{four, 1, 4, 1, api.OK},
		{four, 250, 1000, 1, api.OK},
		{four, 251, 1000, 3, api.OK},
		{four, 3, 5, 5, api.OK},
		{four, 3, 4, 5, api.OK},
		{four, 750, 1000, 5, api.OK},
		{four, 751, 1000, 9, api.OK},
		{four, 999, 1000, 9, api.OK},
		{four, 1000, 1000, 9, api.OK},
		{four, 1, 1, 9, api.OK},
		{[]int{7}, 0, 1, 7, api.OK},
		{[]int{7}, 1, 1, 7, api.OK},
		{[]int{2, 2, 8}, 2, 3, 2, api.OK},
		{[]int{2, 2, 8}, 667, 1000, 8, api.OK},
		{[]int{9, 8, 7}, 1, 2, 8, api.OK},
		{ramp(64), 1, 64, 1, api.OK},
		{ramp(64), 63, 64, 63, api.OK},
		{ramp(64), 1, 1000, 1, api.OK},
		{ramp(64), 999, 1000, 64, api.OK},
		{[]int{0, most}, 1, 1, most, api.OK},

		{four, 0, 0, 0, api.ErrArg},
		{four, 1, 0, 0, api.ErrArg},
		{four, 0, -1, 0, api.ErrArg},
		{four, -1, -1, 0, api.ErrArg},
		{four, -2, -1, 0, api.ErrArg},
		{four, 1, 1001, 0, api.ErrArg},
		{four, -1, 2, 0, api.ErrArg},
		{four, 3, 2, 0, api.ErrArg},
		{four, 2, 1, 0, api.ErrArg},
		{four, 1001, 1000, 0, api.ErrArg},
		{four, math.MaxInt, 1000, 0, api.ErrArg},
		{four, math.MinInt, 1000, 0, api.ErrArg},
		{four, math.MaxInt, math.MaxInt, 0, api.ErrArg},
		{four, math.MinInt, math.MinInt, 0, api.ErrArg},
		{nil, 1, 2, 0, api.ErrNone},
		{[]int{}, 0, 1, 0, api.ErrNone},
		// There are no values as well, but ErrArg comes first.
		{nil, 1, 0, 0, api.ErrArg},
		{nil, 3, 2, 0, api.ErrArg},
		{nil, 1, 1001, 0, api.ErrArg},
	} {
		if got, errno := Rank(r.l, r.num, r.den); got != r.want || errno != r.errno {
			t.Errorf("Rank(%v, %d, %d) = %d, %d; want %d, %d", r.l, r.num, r.den, got, errno, r.want, r.errno)
		}
	}
}

// The quantile is the first value in order up to which the fraction of values
// is at least num/den.
func TestRankFractions(t *testing.T) {
	for _, l := range lists(52, 60) {
		if len(l) == 0 {
			continue
		}
		order := slowSort(l)
		for _, den := range []int{1, 2, 3, 7, 64, 100, 999, 1000} {
			for num := 0; num <= den; num++ {
				k := 1
				for k*den < num*len(l) {
					k++
				}
				got, errno := Rank(l, num, den)
				checkInt(t, "Rank", got, errno, order[k-1], api.OK)
			}
		}
	}
}

type change struct {
	l     []int
	n     int
	want  []int
	errno api.Errno
}

func TestPutRows(t *testing.T) {
	for _, r := range []change{
		{nil, 4, []int{4}, api.OK},
		{[]int{}, 0, []int{0}, api.OK},
		{[]int{1, 3}, 3, []int{1, 3, 3}, api.OK},
		{[]int{1, 3}, 1, []int{1, 1, 3}, api.OK},
		{[]int{1, 3}, 2, []int{1, 2, 3}, api.OK},
		{[]int{1, 3}, 0, []int{0, 1, 3}, api.OK},
		{[]int{1, 3}, most, []int{1, 3, most}, api.OK},
		{[]int{2, 2, 2}, 2, []int{2, 2, 2, 2}, api.OK},
		{ramp(63), 64, ramp(64), api.OK},
		{ramp(64)[1:], 1, ramp(64), api.OK},
		{[]int{1, 3}, -1, nil, api.ErrArg},
		{[]int{1, 3}, most + 1, nil, api.ErrArg},
		{nil, -1, nil, api.ErrArg},
		{ramp(64), 5, nil, api.ErrLarge},
		{ramp(64), 65, nil, api.ErrLarge},
		{make([]int, 64), 0, nil, api.ErrLarge},
		{[]int{5, 1, 9, 3}, 3, nil, api.ErrForm},
		{[]int{3, 2}, 2, nil, api.ErrForm},
		{[]int{1, 2, 4, 3}, 2, nil, api.ErrForm},
		{[]int{2, 1, 3, 4}, 2, nil, api.ErrForm},
		// Several errors at once: the order of the list comes first, then the
		// value, then the room.
		{[]int{3, 2}, -1, nil, api.ErrForm},
		{append(ramp(63), 0), 1, nil, api.ErrForm},
		{append(ramp(63), 0), -1, nil, api.ErrForm},
		{ramp(64), -1, nil, api.ErrArg},
		{ramp(64), most + 1, nil, api.ErrArg},
	} {
		if got, errno := Put(r.l, r.n); !slices.Equal(got, r.want) || errno != r.errno {
			t.Errorf("Put(%v, %d) = %v, %d; want %v, %d", r.l, r.n, got, errno, r.want, r.errno)
		}
	}
	for _, n := range strangers() {
		got, errno := Put(ramp(3), n)
		checkList(t, "Put of a stranger", got, errno, nil, api.ErrArg)
	}
}

func TestCutRows(t *testing.T) {
	for _, r := range []change{
		{[]int{4}, 4, nil, api.OK},
		{[]int{0}, 0, nil, api.OK},
		{[]int{1, 3, 3}, 3, []int{1, 3}, api.OK},
		{[]int{1, 1, 3}, 1, []int{1, 3}, api.OK},
		{[]int{1, 2, 3}, 2, []int{1, 3}, api.OK},
		{[]int{2, 2, 2}, 2, []int{2, 2}, api.OK},
		{[]int{0, most}, most, []int{0}, api.OK},
		{ramp(64), 64, ramp(63), api.OK},
		{ramp(64), 1, ramp(64)[1:], api.OK},
		{nil, 0, nil, api.ErrNone},
		{[]int{}, 4, nil, api.ErrNone},
		{[]int{1, 3}, 2, nil, api.ErrNone},
		{[]int{1, 3}, 0, nil, api.ErrNone},
		{[]int{1, 3}, 4, nil, api.ErrNone},
		{ramp(64), 65, nil, api.ErrNone},
		{[]int{3, 2}, 2, nil, api.ErrForm},
		{[]int{5, 1, 9, 3}, 3, nil, api.ErrForm},
		{[]int{1, 2, 4, 3}, 1, nil, api.ErrForm},
		// The number is missing as well, but ErrForm comes first.
		{[]int{3, 2}, 7, nil, api.ErrForm},
		{[]int{3, 2}, -1, nil, api.ErrForm},
	} {
		if got, errno := Cut(r.l, r.n); !slices.Equal(got, r.want) || errno != r.errno {
			t.Errorf("Cut(%v, %d) = %v, %d; want %v, %d", r.l, r.n, got, errno, r.want, r.errno)
		}
	}
	// A number that is no value is just not in the list.
	for _, n := range strangers() {
		got, errno := Cut([]int{0, 1, most}, n)
		checkList(t, "Cut of a stranger", got, errno, nil, api.ErrNone)
	}
}

// A list that is built by Put is the sorted one, and Cut takes it apart again.
func TestPutAndCut(t *testing.T) {
	for _, l := range lists(53, 300) {
		built := []int{}
		for i, n := range l {
			var errno api.Errno
			built, errno = Put(built, n)
			checkList(t, "Put", built, errno, slowSort(l[:i+1]), api.OK)
		}
		for i, n := range l {
			var errno api.Errno
			built, errno = Cut(built, n)
			checkList(t, "Cut", built, errno, slowSort(l[i+1:]), api.OK)
		}
	}
}

func TestFarRows(t *testing.T) {
	four := []int{5, 1, 9, 3}
	for _, r := range []struct {
		l     []int
		n     int
		want  int
		errno api.Errno
	}{
		{nil, 0, 0, api.OK},
		{[]int{}, most, 0, api.OK},
		{four, 4, 10, api.OK},
		{four, 0, 18, api.OK},
		{four, 10, 22, api.OK},
		{[]int{6, 6}, 6, 0, api.OK},
		{[]int{0, most}, 0, most, api.OK},
		{[]int{0, most}, most, most, api.OK},
		{make([]int, 64), most, 64 * most, api.OK},
		{slices.Repeat([]int{most}, 64), 0, 64 * most, api.OK},
		{four, -1, 0, api.ErrArg},
		{four, most + 1, 0, api.ErrArg},
		{nil, -1, 0, api.ErrArg},
	} {
		if got, errno := Far(r.l, r.n); got != r.want || errno != r.errno {
			t.Errorf("Far(%v, %d) = %d, %d; want %d, %d", r.l, r.n, got, errno, r.want, r.errno)
		}
	}
	for _, n := range strangers() {
		sum, errno := Far(four, n)
		checkInt(t, "Far from a stranger", sum, errno, 0, api.ErrArg)
	}
}

// Counted tick by tick: a value is as far from n as there are ticks between.
func TestFarLists(t *testing.T) {
	source := rand.New(rand.NewPCG(54, 1))
	for range 500 {
		l, n, want := make([]int, source.IntN(65)), source.IntN(30), 0
		for i := range l {
			l[i] = source.IntN(30)
			for tick := min(l[i], n); tick < max(l[i], n); tick++ {
				want++
			}
		}
		got, errno := Far(l, n)
		checkInt(t, "Far", got, errno, want, api.OK)
	}
}

// The arguments are neither changed nor shared with a result, their spare
// capacity included, and no two results share memory.
func TestMemory(t *testing.T) {
	for _, f := range []struct {
		name string
		call func(l []int) []int
	}{
		{"Sort", func(l []int) []int { out, _ := Sort(l); return out }},
		{"Put in front", func(l []int) []int { out, _ := Put(l, 0); return out }},
		{"Put inside", func(l []int) []int { out, _ := Put(l, 12); return out }},
		{"Put at the end", func(l []int) []int { out, _ := Put(l, 99); return out }},
		{"Cut in front", func(l []int) []int { out, _ := Cut(l, 11); return out }},
		{"Cut inside", func(l []int) []int { out, _ := Cut(l, 12); return out }},
		{"Cut at the end", func(l []int) []int { out, _ := Cut(l, 14); return out }},
	} {
		for count := range 5 {
			memory := []int{11, 12, 13, 14, 15, 16}
			before := slices.Clone(memory)
			first, second := f.call(memory[:count]), f.call(memory[:count])
			wanted := slices.Clone(second)
			spare := first[:cap(first)]
			for i := range spare {
				spare[i] = -7
			}
			if !slices.Equal(memory, before) || !slices.Equal(second, wanted) {
				t.Errorf("%s of %d values: memory %v, second result %v", f.name, count, memory, second)
			}
		}
	}
}

func TestArgumentsStay(t *testing.T) {
	memory := []int{5, 1, 9, 3, -9}
	before := slices.Clone(memory)
	l := memory[:4]
	Sort(l)
	Rank(l, 1, 2)
	Put(l, 3)
	Cut(l, 3)
	Far(l, 3)
	if !slices.Equal(memory, before) {
		t.Errorf("the argument became %v", memory)
	}
}
