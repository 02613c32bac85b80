package hist

import (
	"math"
	"math/rand/v2"
	"slices"
	"testing"

	"heartwood/api"
)

const (
	most   = api.MaxVal
	lots   = 1 << 30 // the greatest count
	levels = 26      // the counts of a histogram
)

// strangers are numbers that are not values.
func strangers() []int {
	return []int{math.MinInt, -most, -2, -1, most + 1, most + 2, 1<<25 - 1, 1 << 25, 1<<32 + 5, math.MaxInt}
}

// badCounts are numbers that are not counts.
func badCounts() []int {
	return []int{math.MinInt, -lots, -2, -1, lots + 1, lots + 2, 1<<32 + 5, math.MaxInt}
}

// with returns a histogram with one count that is not 0.
func with(length, count int) api.Hist {
	h := api.Hist{}
	h.Counts[length] = count
	return h
}

// all returns a histogram of which each count is that.
func all(count int) api.Hist {
	h := api.Hist{}
	for length := range h.Counts {
		h.Counts[length] = count
	}
	return h
}

func of(t *testing.T, vals []int) api.Hist {
	t.Helper()
	h := api.Hist{}
	for _, n := range vals {
		var errno api.Errno
		if h, errno = Put(h, n); errno != api.OK {
			t.Fatalf("Put %d: %d", n, errno)
		}
	}
	return h
}

// randomValues returns the same lists on each run, of values of all lengths.
func randomValues(seed uint64, count int) [][]int {
	source := rand.New(rand.NewPCG(seed, 1))
	rows := make([][]int, count)
	for i := range rows {
		l := make([]int, source.IntN(120))
		limit := 1 + source.IntN(25)
		for k := range l {
			l[k] = source.IntN(1<<source.IntN(limit) + 1)
		}
		rows[i] = l
	}
	return rows
}

func checkHist(t *testing.T, name string, got api.Hist, errno api.Errno, want api.Hist, wantErrno api.Errno) {
	t.Helper()
	if got != want || errno != wantErrno {
		t.Errorf("%s: got %v, %d; want %v, %d", name, got, errno, want, wantErrno)
	}
}

func checkBetween(t *testing.T, h api.Hist, num, den, wantLow, wantHigh int, wantErrno api.Errno) {
	t.Helper()
	low, high, errno := Between(h, num, den)
	if low != wantLow || high != wantHigh || errno != wantErrno {
		t.Errorf("Between %v, %d/%d: got %d, %d, %d; want %d, %d, %d", h, num, den, low, high, errno, wantLow, wantHigh, wantErrno)
	}
}

func TestCheck(t *testing.T) {
	for _, count := range []int{0, 1, 2, lots - 1, lots} {
		if errno := Check(all(count)); errno != api.OK {
			t.Errorf("Check of counts %d: %d", count, errno)
		}
	}
	for length := range levels {
		for _, count := range badCounts() {
			if errno := Check(with(length, count)); errno != api.ErrArg {
				t.Errorf("Check of count %d at %d: %d", count, length, errno)
			}
			h := all(lots)
			h.Counts[length] = count
			if errno := Check(h); errno != api.ErrArg {
				t.Errorf("Check of count %d at %d among full ones: %d", count, length, errno)
			}
		}
	}
}

// The error of Check comes before all others, and it is that of each argument.
func TestInvalidHistograms(t *testing.T) {
	for length := range levels {
		for _, count := range badCounts() {
			bad := with(length, count)
			for _, n := range []int{0, 1, 5, most, -1, most + 1} {
				got, errno := Put(bad, n)
				checkHist(t, "Put", got, errno, api.Hist{}, api.ErrArg)
			}
			for _, other := range []api.Hist{{}, all(1), all(lots), bad} {
				got, errno := Join(bad, other)
				checkHist(t, "Join of a bad first", got, errno, api.Hist{}, api.ErrArg)
				got, errno = Join(other, bad)
				checkHist(t, "Join of a bad second", got, errno, api.Hist{}, api.ErrArg)
			}
			checkBetween(t, bad, 1, 2, 0, 0, api.ErrArg)
			checkBetween(t, bad, 2, 1, 0, 0, api.ErrArg)
		}
	}
	// Two counts that are none do not become one by their sum.
	for _, pair := range [][2]int{{-1, 2}, {2, -1}, {lots + 1, -1}, {-1, lots + 1}} {
		got, errno := Join(with(3, pair[0]), with(3, pair[1]))
		checkHist(t, "Join of counts that balance", got, errno, api.Hist{}, api.ErrArg)
	}
	// One that is not a count does not hide in the total either.
	h := with(3, -1)
	h.Counts[4] = 2
	checkBetween(t, h, 1, 1, 0, 0, api.ErrArg)
}

// Each value is counted at its bit length: at both ends of each length too.
func TestPutLengths(t *testing.T) {
	for _, r := range []struct{ n, length int }{
		{0, 0}, {1, 1}, {2, 2}, {3, 2}, {4, 3}, {5, 3}, {7, 3}, {8, 4}, {9, 4}, {15, 4}, {16, 5},
		{255, 8}, {256, 9}, {1 << 23, 24}, {most - 1, 24}, {most, 25},
	} {
		got, errno := Put(api.Hist{}, r.n)
		checkHist(t, "Put", got, errno, with(r.length, 1), api.OK)
	}
	for length := 1; length <= 24; length++ {
		for _, n := range []int{1 << (length - 1), 1<<length - 1} {
			got, errno := Put(all(7), n)
			want := all(7)
			want.Counts[length] = 8
			checkHist(t, "Put at an end", got, errno, want, api.OK)
		}
	}
}

func TestPutErrors(t *testing.T) {
	for _, n := range strangers() {
		for _, h := range []api.Hist{{}, all(1), all(lots)} {
			got, errno := Put(h, n)
			checkHist(t, "Put of no value", got, errno, api.Hist{}, api.ErrArg)
		}
	}
	for length := range levels {
		n := 1 << length >> 1
		got, errno := Put(with(length, lots), n)
		checkHist(t, "Put to a full count", got, errno, api.Hist{}, api.ErrLarge)
		got, errno = Put(with(length, lots-1), n)
		checkHist(t, "Put to the last place", got, errno, with(length, lots), api.OK)
		// That the others are full does not matter.
		h := all(lots)
		h.Counts[length] = 4
		want := h
		want.Counts[length] = 5
		got, errno = Put(h, n)
		checkHist(t, "Put among full counts", got, errno, want, api.OK)
	}
}

func TestJoin(t *testing.T) {
	a, b, want := api.Hist{}, api.Hist{}, api.Hist{}
	for length := range levels {
		a.Counts[length] = length * length
		b.Counts[length] = 1000 - length
		want.Counts[length] = length*length + 1000 - length
	}
	got, errno := Join(a, b)
	checkHist(t, "Join", got, errno, want, api.OK)
	got, errno = Join(b, a)
	checkHist(t, "Join the other way round", got, errno, want, api.OK)
	got, errno = Join(a, api.Hist{})
	checkHist(t, "Join with none", got, errno, a, api.OK)
	got, errno = Join(api.Hist{}, a)
	checkHist(t, "Join to none", got, errno, a, api.OK)
	got, errno = Join(api.Hist{}, api.Hist{})
	checkHist(t, "Join of none", got, errno, api.Hist{}, api.OK)
}

func TestJoinLarge(t *testing.T) {
	got, errno := Join(all(lots), api.Hist{})
	checkHist(t, "Join of full counts with none", got, errno, all(lots), api.OK)
	got, errno = Join(all(lots/2), all(lots/2))
	checkHist(t, "Join to full counts", got, errno, all(lots), api.OK)
	for length := range levels {
		for _, r := range []struct{ a, b int }{{lots, 1}, {1, lots}, {lots, lots}, {lots/2 + 1, lots / 2}} {
			got, errno := Join(with(length, r.a), with(length, r.b))
			checkHist(t, "Join of too many", got, errno, api.Hist{}, api.ErrLarge)
		}
		got, errno := Join(with(length, lots-1), with(length, 1))
		checkHist(t, "Join to a full count", got, errno, with(length, lots), api.OK)
	}
}

// A join counts the values of both.
func TestJoinOfLists(t *testing.T) {
	rows := randomValues(3, 100)
	for i := range rows[1:] {
		a, b := rows[i], rows[i+1]
		got, errno := Join(of(t, a), of(t, b))
		checkHist(t, "Join of lists", got, errno, of(t, slices.Concat(a, b)), api.OK)
	}
}

func TestBetween(t *testing.T) {
	five := of(t, []int{9, 7, 0, 5, 1})
	for _, r := range []struct{ num, den, low, high int }{
		{0, 1, 0, 0}, {0, 1000, 0, 0}, {1, 1000, 0, 0}, {1, 5, 0, 0},
		{201, 1000, 1, 1}, {2, 5, 1, 1}, {401, 1000, 4, 7}, {1, 2, 4, 7}, {3, 5, 4, 7}, {4, 5, 4, 7},
		{801, 1000, 8, 15}, {1, 1, 8, 15}, {1000, 1000, 8, 15},
	} {
		checkBetween(t, five, r.num, r.den, r.low, r.high, api.OK)
	}
	// The median of an even number of values is the lower one.
	checkBetween(t, of(t, []int{1, 2, 4, 8}), 1, 2, 2, 3, api.OK)
	checkBetween(t, of(t, []int{5, 7}), 1, 2, 4, 7, api.OK)
}

// One bit length after the other: no bound exceeds the greatest value.
func TestBetweenEnds(t *testing.T) {
	checkBetween(t, with(0, 1), 1, 2, 0, 0, api.OK)
	for length := 1; length <= 24; length++ {
		checkBetween(t, with(length, 1), 1, 2, 1<<(length-1), 1<<length-1, api.OK)
		checkBetween(t, with(length, lots), 1, 2, 1<<(length-1), 1<<length-1, api.OK)
	}
	checkBetween(t, with(25, 1), 1, 2, most, most, api.OK)
	checkBetween(t, with(25, lots), 1, 2, most, most, api.OK)
}

// The greatest number of values: 26 * 2^30 of them.
func TestBetweenFull(t *testing.T) {
	h := all(lots)
	for length := range levels {
		low, high := 1<<length>>1, min(1<<length-1, most)
		checkBetween(t, h, length+1, levels, low, high, api.OK)
		checkBetween(t, h, length*1000/levels+1, 1000, low, high, api.OK)
	}
	checkBetween(t, h, 0, 1, 0, 0, api.OK)
	checkBetween(t, h, 1000, 1000, most, most, api.OK)
}

func TestBetweenErrors(t *testing.T) {
	for _, r := range []struct{ num, den int }{
		{0, 0}, {1, 0}, {0, -1}, {-1, -1}, {-1, 1}, {-1, 1000}, {2, 1}, {1000, 999}, {1001, 1000}, {0, 1001}, {500, 1001}, {1001, 1001},
		{math.MinInt, 2}, {math.MaxInt, 2}, {1, math.MaxInt}, {1, math.MinInt}, {math.MinInt, math.MinInt}, {math.MaxInt, math.MaxInt},
		{1, 1<<32 + 2}, {1<<32 + 1, 2},
	} {
		for _, h := range []api.Hist{{}, all(1), all(lots)} {
			checkBetween(t, h, r.num, r.den, 0, 0, api.ErrArg)
		}
	}
	for _, r := range []struct{ num, den int }{{0, 1}, {1, 1}, {1, 2}, {0, 1000}, {1000, 1000}} {
		checkBetween(t, api.Hist{}, r.num, r.den, 0, 0, api.ErrNone)
		checkBetween(t, with(0, 1), r.num, r.den, 0, 0, api.OK)
	}
}

// The quantile of the sorted values themselves is between the bounds, and both
// bounds have its bit length.
func TestBetweenOfLists(t *testing.T) {
	for _, l := range randomValues(5, 300) {
		h := of(t, l)
		slices.Sort(l)
		for _, den := range []int{1, 2, 3, 7, 100, 999, 1000} {
			for num := 0; num <= den; num += 1 + den/11 {
				if len(l) == 0 {
					checkBetween(t, h, num, den, 0, 0, api.ErrNone)
					continue
				}
				low, high := slowBounds(slowRank(l, num, den))
				checkBetween(t, h, num, den, low, high, api.OK)
			}
		}
	}
}

// slowRank returns the first value of the sorted list l up to which there are
// at least num/den of all values.
func slowRank(l []int, num, den int) int {
	k := 1
	for k*den < len(l)*num {
		k++
	}
	return l[k-1]
}

// slowBounds widens n to all values between the same two powers of 2.
func slowBounds(n int) (int, int) {
	if n == 0 {
		return 0, 0
	}
	low := 1
	for 2*low <= n {
		low *= 2
	}
	return low, min(2*low-1, most)
}
