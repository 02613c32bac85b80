package fade

import (
	"math"
	"math/big"
	"math/rand/v2"
	"slices"
	"testing"

	"heartwood/api"
)

const (
	most     = api.MaxVal
	greatest = 1 << 32 // of a mean
)

// strangers are numbers that are not values.
func strangers() []int {
	return []int{math.MinInt, -most, -2, -1, most + 1, most + 2, 1<<32 + 5, math.MaxInt}
}

// badMeans are numbers that are not means.
func badMeans() []int {
	return []int{math.MinInt, -greatest, -256, -1, greatest + 1, greatest + 256, 1 << 40, math.MaxInt}
}

// badShifts are numbers that are not shifts.
func badShifts() []int {
	return []int{math.MinInt, -8, -1, 9, 10, 63, 64, 65, 256, 1<<32 + 2, math.MaxInt}
}

func checkMean(t *testing.T, name string, got int, errno api.Errno, want int, wantErrno api.Errno) {
	t.Helper()
	if got != want || errno != wantErrno {
		t.Errorf("%s: got %d, %d; want %d, %d", name, got, errno, want, wantErrno)
	}
}

func TestNext(t *testing.T) {
	for _, r := range []struct{ mean, n, shift, want int }{
		{1024, 8, 2, 1280},
		{256, 3, 1, 512},
		{256, 0, 3, 224},
		{0, 1, 0, 256},
		{0, 0, 0, 0},
		{0, 0, 8, 0},
		{256, 1, 8, 256},
		// Up: the step is rounded down.
		{1, 1, 1, 128},
		{1, 1, 8, 1},
		{0, 1, 8, 1},
		{255, 1, 1, 255},
		{255, 1, 0, 256},
		{250, 1, 2, 251},
		// Down: the step is rounded away from 0.
		{255, 0, 8, 254},
		{1, 0, 8, 0},
		{1, 0, 1, 0},
		{3, 0, 1, 1},
		{257, 1, 8, 256},
		{257, 1, 1, 256},
		{259, 1, 1, 257},
		{260, 1, 2, 259},
		{261, 1, 2, 259},
		// At the ends of the ranges.
		{greatest, most, 0, greatest},
		{greatest, most, 8, greatest},
		{greatest, 0, 0, 0},
		{greatest, 0, 8, greatest - 1<<24},
		{greatest, 0, 1, greatest / 2},
		{0, most, 0, greatest},
		{0, most, 8, 1 << 24},
		{0, most, 1, greatest / 2},
		{greatest - 1, most, 8, greatest - 1},
		{greatest - 1, most, 1, greatest - 1},
		{greatest - 1, most, 0, greatest},
	} {
		got, errno := Next(r.mean, r.n, r.shift)
		if got != r.want || errno != api.OK {
			t.Errorf("Next %d, %d, %d: got %d, %d; want %d", r.mean, r.n, r.shift, got, errno, r.want)
		}
	}
}

// exactNext is the formula of the document. Div of math/big rounds down for a
// divisor above 0.
func exactNext(mean, n, shift int) int {
	distance := new(big.Int).Mul(big.NewInt(256), big.NewInt(int64(n)))
	distance.Sub(distance, big.NewInt(int64(mean)))
	part := new(big.Int).Div(distance, big.NewInt(int64(math.Pow(2, float64(shift)))))
	return int(part.Add(part, big.NewInt(int64(mean))).Int64())
}

// A mean moves towards the value, not beyond it, and stays a mean.
func TestNextExact(t *testing.T) {
	source := rand.New(rand.NewPCG(7, 1))
	for range 5000 {
		mean := source.IntN(1<<source.IntN(33) + 1)
		n := source.IntN(1<<source.IntN(25) + 1)
		shift := source.IntN(9)
		got, errno := Next(mean, n, shift)
		checkMean(t, "Next", got, errno, exactNext(mean, n, shift), api.OK)
		if got < min(mean, 256*n) || got > max(mean, 256*n) {
			t.Errorf("Next %d, %d, %d: %d is not between", mean, n, shift, got)
		}
	}
}

func TestNextErrors(t *testing.T) {
	for _, mean := range badMeans() {
		for _, n := range []int{0, 1, most} {
			got, errno := Next(mean, n, 2)
			checkMean(t, "Next of no mean", got, errno, 0, api.ErrArg)
		}
	}
	for _, n := range strangers() {
		for _, mean := range []int{0, 256, greatest} {
			got, errno := Next(mean, n, 2)
			checkMean(t, "Next of no value", got, errno, 0, api.ErrArg)
		}
	}
	for _, shift := range badShifts() {
		got, errno := Next(1024, 8, shift)
		checkMean(t, "Next of no shift", got, errno, 0, api.ErrArg)
		got, errno = Run([]int{4, 8}, shift)
		checkMean(t, "Run of no shift", got, errno, 0, api.ErrArg)
		got, errno = Run([]int{4}, shift)
		checkMean(t, "Run of no shift for one value", got, errno, 0, api.ErrArg)
		got, errno = Run(nil, shift)
		checkMean(t, "Run of no shift for no values", got, errno, 0, api.ErrArg)
	}
	got, errno := Next(-1, -1, -1)
	checkMean(t, "Next of nothing valid", got, errno, 0, api.ErrArg)
}

func TestRun(t *testing.T) {
	for _, r := range []struct {
		l     []int
		shift int
		want  int
	}{
		{[]int{4, 8}, 2, 1280},
		{[]int{8, 4}, 2, 1792},
		{[]int{4}, 2, 1024},
		{[]int{0}, 8, 0},
		{[]int{most}, 0, greatest},
		{[]int{most}, 8, greatest},
		{[]int{4, 8, 0}, 2, 960},
		{[]int{1, 2, 3}, 0, 768},
		{[]int{0, 1}, 8, 1},
		{[]int{0, 1, 0}, 8, 0},
		{[]int{1, 0, 0}, 8, 254},
		{slices.Repeat([]int{most}, 64), 8, greatest},
		{slices.Repeat([]int{0}, 64), 8, 0},
		{append(slices.Repeat([]int{7}, 63), most), 0, greatest},
	} {
		got, errno := Run(r.l, r.shift)
		if got != r.want || errno != api.OK {
			t.Errorf("Run %v, %d: got %d, %d; want %d", r.l, r.shift, got, errno, r.want)
		}
	}
}

// Run is Next again and again.
func TestRunSteps(t *testing.T) {
	source := rand.New(rand.NewPCG(9, 1))
	for range 1000 {
		l := make([]int, 1+source.IntN(64))
		limit := 1 << source.IntN(25)
		for i := range l {
			l[i] = source.IntN(limit + 1)
		}
		shift := source.IntN(9)
		mean := 256 * l[0]
		for _, n := range l[1:] {
			mean = exactNext(mean, n, shift)
		}
		got, errno := Run(l, shift)
		checkMean(t, "Run", got, errno, mean, api.OK)
	}
}

func TestRunErrors(t *testing.T) {
	for _, r := range []struct {
		name  string
		l     []int
		shift int
		want  api.Errno
	}{
		{"too long", make([]int, 65), 2, api.ErrLarge},
		{"too long, of no values", slices.Repeat([]int{-1}, 65), 2, api.ErrLarge},
		{"too long, no shift", make([]int, 65), 9, api.ErrLarge},
		{"too long, no shift", make([]int, 1000), -1, api.ErrLarge},
		{"no value, no shift", []int{1, -1}, 9, api.ErrArg},
		{"nil", nil, 2, api.ErrNone},
		{"empty", []int{}, 0, api.ErrNone},
		{"empty", []int{}, 8, api.ErrNone},
	} {
		got, errno := Run(r.l, r.shift)
		checkMean(t, r.name, got, errno, 0, r.want)
	}
	for _, n := range strangers() {
		for _, l := range [][]int{{n}, {n, 1}, {1, n}, {1, n, 1}, append(make([]int, 63), n)} {
			got, errno := Run(l, 2)
			checkMean(t, "Run of no value", got, errno, 0, api.ErrArg)
		}
	}
}

// The list and its spare capacity stay as they are.
func TestRunKeepsList(t *testing.T) {
	memory := []int{4, 8, 3, 77, 78}
	if _, errno := Run(memory[:3], 2); errno != api.OK {
		t.Fatal(errno)
	}
	if !slices.Equal(memory, []int{4, 8, 3, 77, 78}) {
		t.Errorf("the list has changed: %v", memory)
	}
}
