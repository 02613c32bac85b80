package level

import (
	"math"
	"math/big"
	"math/rand/v2"
	"slices"
	"testing"

	"heartwood/api"
)

const (
	most       = 1 << 24 // of a value, and of least
	latest     = 1 << 30 // time
	mostLevels = 60
)

// exactOf is the formula of the document in numbers of any size, with the
// spread computed from the values themselves.
func exactOf(vals []int, least, since int) int {
	count, sum, squares := big.NewInt(int64(len(vals))), new(big.Int), new(big.Int)
	for _, v := range vals {
		value := big.NewInt(int64(v))
		sum.Add(sum, value)
		squares.Add(squares, value.Mul(value, value))
	}
	spread := new(big.Int).Mul(count, squares)
	spread.Sub(spread, new(big.Int).Mul(sum, sum))
	scale := new(big.Int).Mul(count, big.NewInt(int64(least)))
	scale.Mul(scale, scale)
	if spread.Cmp(scale) > 0 {
		scale = spread
	}
	above := new(big.Int).Mul(count, big.NewInt(int64(since)))
	above.Sub(above, sum)
	if above.Sign() <= 0 {
		return 0
	}
	reach := above.Add(above.Mul(above, above), scale)
	level := 0
	for reach.Cmp(scale.Lsh(scale, 1)) >= 0 {
		level++
	}
	return level
}

// full returns the window of these values with no room for more.
func full(vals ...int) api.Window {
	return api.Window{Cap: len(vals), Vals: vals}
}

func checkOf(t *testing.T, w api.Window, least, since, want int, wantErrno api.Errno) {
	t.Helper()
	if got, errno := Of(w, least, since); got != want || errno != wantErrno {
		t.Errorf("Of %v, %d, %d: got %d, %d; want %d, %d", w, least, since, got, errno, want, wantErrno)
	}
}

func checkWhen(t *testing.T, w api.Window, least, theta, want int, wantErrno api.Errno) {
	t.Helper()
	if got, errno := When(w, least, theta); got != want || errno != wantErrno {
		t.Errorf("When %v, %d, %d: got %d, %d; want %d, %d", w, least, theta, got, errno, want, wantErrno)
	}
}

// windows returns the same windows on each run: of all lengths and
// capacities, with small and with great values, some of them far from all
// others, and windows of equal values.
func windows(seed uint64, count int) []api.Window {
	source := rand.New(rand.NewPCG(seed, 1))
	all := make([]api.Window, count)
	for i := range all {
		limit := 1 << source.IntN(25)
		middle := source.IntN(limit + 1)
		vals := make([]int, 1+source.IntN(64))
		for k := range vals {
			switch i % 3 {
			case 0:
				vals[k] = source.IntN(limit + 1)
			case 1:
				vals[k] = middle
			default:
				vals[k] = min(middle+source.IntN(10), most)
			}
			if i%3 != 1 && source.IntN(40) == 0 {
				vals[k] = source.IntN(most + 1)
			}
		}
		all[i] = api.Window{Cap: len(vals) + source.IntN(65-len(vals)), Vals: vals}
	}
	return all
}

func TestOf(t *testing.T) {
	for _, r := range []struct {
		w                  api.Window
		least, since, want int
	}{
		// The level is the greatest k with 2^k <= 1 + (since - 10)^2.
		{full(10, 10, 10), 1, 0, 0},
		{full(10, 10, 10), 1, 9, 0},
		{full(10, 10, 10), 1, 10, 0},
		{full(10, 10, 10), 1, 11, 1},
		{full(10, 10, 10), 1, 12, 2},
		{full(10, 10, 10), 1, 13, 3},
		{full(10, 10, 10), 1, 14, 4},
		{full(10, 10, 10), 1, 15, 4},
		{full(10, 10, 10), 1, 16, 5},
		{full(10, 10, 10), 1, 110, 13},
		// The number of equal values makes no difference.
		{full(10), 1, 13, 3},
		{full(slices.Repeat([]int{10}, 64)...), 1, 13, 3},
		{api.Window{Cap: 64, Vals: []int{10}}, 1, 13, 3},
		// Level 1 is least above the mean, level 2 is sqrt(3) times as far.
		{full(10), 100, 109, 0},
		{full(10), 100, 110, 1},
		{full(10, 10), 100, 109, 0},
		{full(10, 10), 100, 110, 1},
		{full(10, 10), 100, 183, 1},
		{full(10, 10), 100, 184, 2},
		// The spread is 400, more than (2 * 9)^2, as much as (2 * 10)^2, and less
		// than (2 * 11)^2: D is 2, 18, 20 and 22.
		{full(0, 20), 1, 10, 0},
		{full(0, 20), 1, 11, 0},
		{full(0, 20), 9, 19, 0},
		{full(0, 20), 9, 20, 1},
		{full(0, 20), 10, 19, 0},
		{full(0, 20), 10, 20, 1},
		{full(0, 20), 11, 20, 0},
		{full(0, 20), 11, 21, 1},
		// The order of the values makes no difference.
		{full(20, 0), 9, 20, 1},
		// The spread is 78, the sum 12: a silence of 4 is the mean.
		{full(1, 3, 8), 1, 4, 0},
		{full(1, 3, 8), 1, 6, 0},
		{full(1, 3, 8), 1, 7, 1},
		{full(1, 3, 8), 1, 9, 1},
		{full(1, 3, 8), 1, 10, 2},
		// D is less than N: the mean is not a whole number.
		{full(0, 0, 1), 1, 0, 0},
		{full(0, 0, 1), 1, 1, 0},
		{full(0, 0, 1), 1, 2, 1},
		{full(0), 1, 0, 0},
		{full(0), 1, 1, 1},
	} {
		checkOf(t, r.w, r.least, r.since, r.want, api.OK)
	}
}

// The greatest and the least numbers do not overflow: D^2 is up to 2^72.
func TestOfEnds(t *testing.T) {
	early := make([]int, 64)
	late := slices.Repeat([]int{most}, 64)
	half := append(make([]int, 32), late[:32]...) // of the greatest spread, 2^58
	for _, r := range []struct {
		vals               []int
		least, since, want int
	}{
		{early, 1, 0, 0},
		{early, 1, latest, mostLevels},
		{early, 1, latest - 1, mostLevels - 1},
		{early[:1], 1, latest, mostLevels},
		{early[:4], 1, latest, mostLevels},
		{early[:5], 1, latest, mostLevels},
		{early, most, latest, 12},
		{early, most, 1073610744, 12}, // 2^24 * sqrt(2^12 - 1)
		{early, most, 1073610743, 11},
		{early, most, most, 1},
		{early, most, most - 1, 0},
		{late, 1, latest, mostLevels - 1},
		{late, most, latest, 11},
		{late, most, most, 0},
		{late, most, 2 * most, 1},
		{late, most, 2*most - 1, 0},
		{half, 1, most, 1},
		{half, 1, most - 1, 0},
		{half, most / 2, most, 1},
		{half, most/2 + 1, most, 0},
		{half, 1, latest, 13},
		{half, most, latest, 11},
	} {
		checkOf(t, full(r.vals...), r.least, r.since, r.want, api.OK)
		if exact := exactOf(r.vals, r.least, r.since); exact != r.want {
			t.Errorf("%v, %d, %d: the formula gives %d, not %d", r.vals, r.least, r.since, exact, r.want)
		}
	}
}

func TestOfExact(t *testing.T) {
	source := rand.New(rand.NewPCG(40, 2))
	for _, w := range windows(40, 1500) {
		least := 1 + source.IntN(1<<source.IntN(25))
		sinces := []int{0, 1, w.Vals[0], w.Vals[0] + 1, most, latest - 1, latest}
		for range 20 {
			sinces = append(sinces, source.IntN(1<<source.IntN(31)))
			sinces = append(sinces, w.Vals[0]+source.IntN(1<<source.IntN(25)))
		}
		for _, since := range sinces {
			checkOf(t, w, least, since, exactOf(w.Vals, least, since), api.OK)
		}
	}
}

// All windows of up to three small values, around the bounds of the levels.
func TestOfSmall(t *testing.T) {
	for code := range 6 * 6 * 6 {
		vals := []int{code % 6, code / 6 % 6, code / 36}
		for count := 1; count <= 3; count++ {
			for _, least := range []int{1, 2, 3, 7} {
				for since := range 40 {
					checkOf(t, full(vals[:count]...), least, since, exactOf(vals[:count], least, since), api.OK)
				}
			}
		}
	}
}

// Of the intervals, no greater fraction than 1 / 2^level was as long as the
// silence, and the level never decreases while the silence grows.
func TestOfIsBound(t *testing.T) {
	for _, w := range windows(41, 400) {
		sinces := slices.Clone(w.Vals)
		for i := range 31 {
			sinces = append(sinces, 1<<i, min(1<<i+1, latest))
		}
		slices.Sort(sinces)
		before := 0
		for _, since := range sinces {
			level, errno := Of(w, 1, since)
			if errno != api.OK || level < before || level > mostLevels {
				t.Fatalf("Of %v, 1, %d: %d, %d after %d", w, since, level, errno, before)
			}
			before = level
			long := 0
			for _, v := range w.Vals {
				if v >= since {
					long++
				}
			}
			if long > 0 && len(w.Vals)>>level < long {
				t.Errorf("%v: %d intervals are as long as %d, which has level %d", w, long, since, level)
			}
		}
	}
}

func TestWhen(t *testing.T) {
	for _, r := range []struct {
		w                  api.Window
		least, theta, want int
	}{
		{full(10, 10, 10), 1, 1, 11},
		{full(10, 10, 10), 1, 2, 12},
		{full(10, 10, 10), 1, 3, 13},
		{full(10, 10, 10), 1, 4, 14},
		{full(10, 10, 10), 1, 5, 16},
		{full(10, 10, 10), 1, 13, 101}, // sqrt(2^13 - 1) is 90.5
		{api.Window{Cap: 64, Vals: []int{10, 10, 10}}, 1, 3, 13},
		{full(10, 10), 100, 1, 110},
		{full(10, 10), 100, 2, 184},
		{full(0, 20), 1, 1, 20},
		{full(0, 20), 10, 1, 20},
		{full(0, 20), 11, 1, 21},
		{full(1, 3, 8), 1, 1, 7},
		{full(1, 3, 8), 1, 2, 10},
		{full(0), 1, 1, 1},
		{full(0, 0, 1), 1, 1, 2},
		{full(make([]int, 64)...), most, 1, most},
		{full(slices.Repeat([]int{most}, 64)...), most, 1, 2 * most},
		{full(slices.Repeat([]int{most}, 64)...), 1, 1, most + 1},
	} {
		checkWhen(t, r.w, r.least, r.theta, r.want, api.OK)
	}
}

// The longest silence is the last one that can have the level.
func TestWhenEnds(t *testing.T) {
	for _, r := range []struct {
		w            api.Window
		least, theta int
		want         int
		wantErrno    api.Errno
	}{
		{full(0), 1, 60, latest, api.OK},
		{full(make([]int, 64)...), 1, 60, latest, api.OK},
		{full(1), 1, 60, 0, api.ErrLarge},
		{full(0), 2, 60, 0, api.ErrLarge},
		{full(append(make([]int, 63), 1)...), 1, 60, 0, api.ErrLarge},
		{full(0), 2, 58, latest, api.OK},
		{full(0), 3, 57, 0, api.ErrLarge},
		{full(0), most, 12, 1073610744, api.OK}, // 2^24 * sqrt(2^12 - 1)
		{full(0), most, 13, 0, api.ErrLarge},
		{full(131080), most, 12, latest, api.OK},
		{full(131081), most, 12, 0, api.ErrLarge},
		{full(most), most, 11, 775841955, api.OK}, // 2^24 * (1 + sqrt(2^11 - 1))
		{full(most), most, 12, 0, api.ErrLarge},
		{full(most), most, 60, 0, api.ErrLarge},
		{full(0, most), 1, 14, 0, api.ErrLarge},
	} {
		checkWhen(t, r.w, r.least, r.theta, r.want, r.wantErrno)
	}
}

// When is where the level first is theta, and has an error only where the
// level never is.
func TestWhenIsFirst(t *testing.T) {
	source := rand.New(rand.NewPCG(41, 2))
	for _, w := range windows(42, 300) {
		least := 1 + source.IntN(1<<source.IntN(25))
		for theta := 1; theta <= mostLevels; theta++ {
			if exactOf(w.Vals, least, latest) < theta {
				checkWhen(t, w, least, theta, 0, api.ErrLarge)
				continue
			}
			since, errno := When(w, least, theta)
			if errno != api.OK || since < 1 || since > latest {
				t.Fatalf("When %v, %d, %d: %d, %d", w, least, theta, since, errno)
			}
			if at, before := exactOf(w.Vals, least, since), exactOf(w.Vals, least, since-1); at < theta || before >= theta {
				t.Errorf("When %v, %d, %d: %d, with level %d after %d", w, least, theta, since, at, before)
			}
		}
	}
}

// badWindows are windows with the error of win.Check.
func badWindows() map[api.Errno][]api.Window {
	long := make([]int, 65)
	return map[api.Errno][]api.Window{
		api.ErrArg: {
			{},
			{Cap: 0, Vals: []int{10}},
			{Cap: -1, Vals: []int{10}},
			{Cap: 65, Vals: []int{10}},
			{Cap: 65, Vals: long},
			{Cap: math.MinInt},
			{Cap: math.MaxInt},
			{Cap: 1<<32 + 1, Vals: []int{10}},
			full(-1),
			full(10, most+1),
			full(10, math.MinInt, 10),
			full(math.MaxInt),
		},
		api.ErrLarge: {
			{Cap: 64, Vals: long},
			{Cap: 1, Vals: []int{10, 10}},
			{Cap: 2, Vals: []int{10, -1, 10}},
		},
	}
}

// badLeasts are numbers that are not from 1 to 2^24.
func badLeasts() []int {
	return []int{math.MinInt, -most, -1, 0, most + 1, 1<<32 + 1, math.MaxInt}
}

// badSinces are numbers that are not times.
func badSinces() []int {
	return []int{math.MinInt, -latest, -1, latest + 1, 1 << 31, 1<<32 + 1, math.MaxInt}
}

// badThetas are numbers that are not from 1 to 60.
func badThetas() []int {
	return []int{math.MinInt, -60, -1, 0, mostLevels + 1, 64, 127, 1<<32 + 1, math.MaxInt}
}

// The error of the window comes before all others.
func TestInvalidWindows(t *testing.T) {
	for errno, all := range badWindows() {
		for _, w := range all {
			for _, least := range append(badLeasts(), 1, most) {
				for _, since := range append(badSinces(), 0, 13) {
					checkOf(t, w, least, since, 0, errno)
				}
				for _, theta := range append(badThetas(), 1, mostLevels) {
					checkWhen(t, w, least, theta, 0, errno)
				}
			}
		}
	}
}

// The error of least comes before that of an empty window.
func TestBadLeast(t *testing.T) {
	for _, w := range []api.Window{full(10, 10, 10), {Cap: 4}, {Cap: 1, Vals: []int{}}} {
		for _, least := range badLeasts() {
			for _, since := range append(badSinces(), 0, 13, latest) {
				checkOf(t, w, least, since, 0, api.ErrArg)
			}
			for _, theta := range append(badThetas(), 1, mostLevels) {
				checkWhen(t, w, least, theta, 0, api.ErrArg)
			}
		}
	}
}

// The error of an empty window comes before those of since and theta.
func TestEmptyWindow(t *testing.T) {
	for _, w := range []api.Window{{Cap: 1}, {Cap: 4}, {Cap: 64, Vals: []int{}}, {Cap: 64, Vals: make([]int, 0, 9)}} {
		for _, least := range []int{1, 2, most} {
			for _, since := range append(badSinces(), 0, 5, latest) {
				checkOf(t, w, least, since, 0, api.ErrNone)
			}
			for _, theta := range append(badThetas(), 1, mostLevels) {
				checkWhen(t, w, least, theta, 0, api.ErrNone)
			}
		}
	}
}

func TestBadSince(t *testing.T) {
	for _, since := range badSinces() {
		for _, least := range []int{1, most} {
			checkOf(t, full(10, 10, 10), least, since, 0, api.ErrArg)
			checkOf(t, full(make([]int, 64)...), least, since, 0, api.ErrArg)
		}
	}
}

// The error of theta comes before that of a level that is never reached.
func TestBadTheta(t *testing.T) {
	for _, theta := range badThetas() {
		for _, least := range []int{1, most} {
			checkWhen(t, full(10, 10, 10), least, theta, 0, api.ErrArg)
			checkWhen(t, full(slices.Repeat([]int{most}, 64)...), least, theta, 0, api.ErrArg)
		}
	}
}

func TestKeepsWindow(t *testing.T) {
	memory := []int{8, 1, 3, 77, 78}
	w := api.Window{Cap: 3, Vals: memory[:3]}
	checkOf(t, w, 1, 10, 2, api.OK)
	checkWhen(t, w, 1, 2, 10, api.OK)
	if !slices.Equal(memory, []int{8, 1, 3, 77, 78}) {
		t.Errorf("the window has changed: %v", memory)
	}
}
