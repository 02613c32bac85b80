package vote

import (
	"math"
	"math/rand/v2"
	"slices"
	"testing"

	"heartwood/api"
)

const (
	mostLevels = 64
	mostTheta  = 60
)

func checkSome(t *testing.T, l []int, k, theta int, want bool, wantErrno api.Errno) {
	t.Helper()
	if got, errno := Some(l, k, theta); got != want || errno != wantErrno {
		t.Errorf("Some %v, %d, %d: got %v, %d; want %v, %d", l, k, theta, got, errno, want, wantErrno)
	}
}

func checkLevel(t *testing.T, l []int, k, want int, wantErrno api.Errno) {
	t.Helper()
	if got, errno := Level(l, k); got != want || errno != wantErrno {
		t.Errorf("Level %v, %d: got %d, %d; want %d, %d", l, k, got, errno, want, wantErrno)
	}
}

// checkInvalid checks that both functions return the error, Some also where
// theta is invalid.
func checkInvalid(t *testing.T, l []int, k int, want api.Errno) {
	t.Helper()
	checkLevel(t, l, k, 0, want)
	for _, theta := range append(badThetas(), 1, 5, mostTheta) {
		checkSome(t, l, k, theta, false, want)
	}
}

// ramp returns the levels 1 to count.
func ramp(count int) []int {
	l := make([]int, count)
	for i := range l {
		l[i] = i + 1
	}
	return l
}

// strangers are numbers that are not levels.
func strangers() []int {
	return []int{math.MinInt, -128, -127, -2, -1, 128, 129, 255, 256, 1<<32 + 5, math.MaxInt}
}

// badPlaces are numbers that are not from 1 to 64.
func badPlaces() []int {
	return []int{math.MinInt, -64, -1, 0, 65, 66, 127, 1<<32 + 1, math.MaxInt}
}

// badThetas are numbers that are not from 1 to 60.
func badThetas() []int {
	return []int{math.MinInt, -60, -1, 0, 61, 62, 64, 127, 1<<32 + 1, math.MaxInt}
}

func TestSome(t *testing.T) {
	for _, r := range []struct {
		l        []int
		k, theta int
		want     bool
	}{
		{[]int{5, 9, 1}, 1, 9, true},
		{[]int{5, 9, 1}, 1, 10, false},
		{[]int{5, 9, 1}, 2, 5, true},
		{[]int{5, 9, 1}, 2, 6, false},
		{[]int{5, 9, 1}, 3, 1, true},
		{[]int{5, 9, 1}, 3, 2, false},
		// There are fewer than k levels.
		{[]int{5, 9, 1}, 4, 1, false},
		{[]int{5, 9, 1}, 64, 1, false},
		{nil, 1, 1, false},
		{[]int{}, 64, 60, false},
		// Equal levels each count.
		{[]int{7, 7, 7}, 3, 7, true},
		{[]int{7, 7, 7}, 1, 8, false},
		{[]int{7, 7, 7}, 4, 7, false},
		// Levels can exceed each threshold.
		{[]int{60}, 1, 60, true},
		{[]int{59}, 1, 60, false},
		{[]int{61}, 1, 60, true},
		{[]int{127}, 1, 60, true},
		{[]int{127}, 1, 1, true},
		{[]int{0}, 1, 1, false},
		{[]int{1}, 1, 1, true},
		{slices.Repeat([]int{127}, 64), 64, 60, true},
		{append(slices.Repeat([]int{60}, 63), 59), 64, 60, false},
		{append(slices.Repeat([]int{60}, 63), 59), 63, 60, true},
		{append(slices.Repeat([]int{60}, 63), 59), 64, 59, true},
		{make([]int, 64), 1, 1, false},
		{ramp(64), 5, 60, true},
		{ramp(64), 6, 60, false},
	} {
		checkSome(t, r.l, r.k, r.theta, r.want, api.OK)
	}
}

func TestLevel(t *testing.T) {
	for _, r := range []struct {
		l       []int
		k, want int
	}{
		{[]int{5, 9, 1}, 1, 9},
		{[]int{5, 9, 1}, 2, 5},
		{[]int{5, 9, 1}, 3, 1},
		{[]int{0}, 1, 0},
		{[]int{127}, 1, 127},
		{[]int{0, 127}, 1, 127},
		{[]int{0, 127}, 2, 0},
		// Equal levels each have a place of their own.
		{[]int{7, 3, 7}, 1, 7},
		{[]int{7, 3, 7}, 2, 7},
		{[]int{7, 3, 7}, 3, 3},
		// 9 is more than 10 only as text.
		{[]int{9, 10, 100}, 1, 100},
		{[]int{9, 10, 100}, 2, 10},
		{ramp(64), 1, 64},
		{ramp(64), 2, 63},
		{ramp(64), 64, 1},
		{slices.Repeat([]int{127}, 64), 64, 127},
	} {
		checkLevel(t, r.l, r.k, r.want, api.OK)
	}
}

// All lists of up to four small levels, with all places and thresholds that
// make a difference.
func TestSmall(t *testing.T) {
	for code := range 4 * 4 * 4 * 4 {
		levels := []int{code % 4, code / 4 % 4, code / 16 % 4, code / 64}
		for count := range 5 {
			for k := 1; k <= 5; k++ {
				checkAll(t, levels[:count], k, 4)
			}
		}
	}
}

func TestRandom(t *testing.T) {
	source := rand.New(rand.NewPCG(47, 1))
	for range 400 {
		limit := 1 << source.IntN(8)
		l := make([]int, source.IntN(mostLevels+1))
		for i := range l {
			l[i] = source.IntN(limit)
		}
		for k := 1; k <= mostLevels; k++ {
			checkAll(t, l, k, mostTheta)
		}
	}
}

// checkAll compares both functions with their definitions: at least k of the
// levels are theta or more, and the k-th greatest is the greatest number that
// at least k of the levels reach.
func checkAll(t *testing.T, l []int, k, thetas int) {
	t.Helper()
	reach := func(least int) bool {
		number := 0
		for _, n := range l {
			if n >= least {
				number++
			}
		}
		return number >= k
	}
	for theta := 1; theta <= thetas; theta++ {
		checkSome(t, l, k, theta, reach(theta), api.OK)
	}
	if len(l) < k {
		checkLevel(t, l, k, 0, api.ErrNone)
		return
	}
	want := 127
	for !reach(want) {
		want--
	}
	checkLevel(t, l, k, want, api.OK)
}

// Some says of each threshold what Level says of the place.
func TestSomeIsLevel(t *testing.T) {
	source := rand.New(rand.NewPCG(48, 1))
	for range 500 {
		l := make([]int, 1+source.IntN(mostLevels))
		for i := range l {
			l[i] = source.IntN(128)
		}
		k := 1 + source.IntN(len(l))
		level, errno := Level(l, k)
		if errno != api.OK {
			t.Fatalf("Level %v, %d: %d", l, k, errno)
		}
		for theta := 1; theta <= mostTheta; theta++ {
			checkSome(t, l, k, theta, level >= theta, api.OK)
		}
	}
}

func TestLevelNone(t *testing.T) {
	for count := range mostLevels + 1 {
		for k := 1; k <= mostLevels; k++ {
			if count < k {
				checkLevel(t, ramp(count), k, 0, api.ErrNone)
			} else {
				checkLevel(t, ramp(count), k, count+1-k, api.OK)
			}
		}
	}
	checkLevel(t, nil, 1, 0, api.ErrNone)
	checkLevel(t, []int{}, 64, 0, api.ErrNone)
}

// Too many levels are reported before all other errors.
func TestLarge(t *testing.T) {
	for _, count := range []int{65, 66, 100, 1000} {
		for _, k := range append(badPlaces(), 1, 64) {
			checkInvalid(t, make([]int, count), k, api.ErrLarge)
			checkInvalid(t, slices.Repeat([]int{-1}, count), k, api.ErrLarge)
		}
	}
	checkLevel(t, make([]int, 64), 64, 0, api.OK)
	checkSome(t, make([]int, 64), 64, 1, false, api.OK)
}

// A number that is no level is found wherever it is, and reported before
// there being fewer than k levels.
func TestStrangers(t *testing.T) {
	for _, n := range strangers() {
		for _, count := range []int{1, 2, 63, 64} {
			for at := range count {
				l := slices.Repeat([]int{5}, count)
				l[at] = n
				checkInvalid(t, l, 1, api.ErrArg)
			}
		}
		checkInvalid(t, []int{n}, 2, api.ErrArg)
		checkInvalid(t, []int{5, n}, 64, api.ErrArg)
		checkInvalid(t, []int{5, n}, 0, api.ErrArg)
		checkInvalid(t, []int{n, n, n}, 65, api.ErrArg)
	}
	for n := -300; n <= 300; n++ {
		if n < 0 || n > 127 {
			checkInvalid(t, []int{n}, 1, api.ErrArg)
		} else {
			checkLevel(t, []int{n}, 1, n, api.OK)
			checkSome(t, []int{n}, 1, 1, n >= 1, api.OK)
		}
	}
}

// A place that is out of its bounds is reported before there being fewer than
// k levels.
func TestBadPlaces(t *testing.T) {
	for _, k := range badPlaces() {
		for _, l := range [][]int{nil, {}, {5, 9, 1}, make([]int, 64), ramp(64)} {
			checkInvalid(t, l, k, api.ErrArg)
		}
	}
}

// A threshold out of its bounds is an error also where no level could decide.
func TestBadThetas(t *testing.T) {
	for _, theta := range badThetas() {
		for _, l := range [][]int{nil, {}, {5, 9, 1}, {127, 127}, make([]int, 64)} {
			for _, k := range []int{1, 2, 64} {
				checkSome(t, l, k, theta, false, api.ErrArg)
			}
		}
	}
}

// What lies behind the end of a list is not part of it, and the order of the
// levels does not change.
func TestMemory(t *testing.T) {
	l := []int{5, 9, 1, -1, 100}
	checkLevel(t, l[:3], 1, 9, api.OK)
	checkLevel(t, l[:3], 3, 1, api.OK)
	checkSome(t, l[:3], 1, 10, false, api.OK)
	checkInvalid(t, l[:4], 1, api.ErrArg)
	if !slices.Equal(l, []int{5, 9, 1, -1, 100}) {
		t.Errorf("the levels are now %v", l)
	}
	checkLevel(t, ramp(100)[:64], 1, 64, api.OK)
	checkSome(t, ramp(100)[:64], 64, 1, true, api.OK)
}
