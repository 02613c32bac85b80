package chen

import (
	"math"
	"math/big"
	"math/rand/v2"
	"slices"
	"testing"

	"heartwood/api"
)

const (
	most    = 1 << 24 // of a value
	latest  = 1 << 30 // time
	lastSeq = 1000000
)

// ramp returns count numbers from first on.
func ramp(first, count int) []int {
	l := make([]int, count)
	for i := range l {
		l[i] = first + i
	}
	return l
}

// badSeqs are numbers that are not sequence numbers.
func badSeqs() []int {
	return []int{math.MinInt, -lastSeq, -1, 0, lastSeq + 1, lastSeq + 2, 1 << 31, 1<<32 + 1, math.MaxInt}
}

// badTimes are numbers that are not times.
func badTimes() []int {
	return []int{math.MinInt, -latest, -2, -1, latest + 1, latest + 2, 1 << 31, 1<<32 + 1, math.MaxInt}
}

// badValues are numbers that are not values.
func badValues() []int {
	return []int{math.MinInt, -most, -2, -1, most + 1, most + 2, 1<<32 + 1, math.MaxInt}
}

func checkExpect(t *testing.T, seqs, times []int, every, want int, wantErrno api.Errno) {
	t.Helper()
	got, errno := Expect(seqs, times, every)
	if got != want || errno != wantErrno {
		t.Errorf("Expect %v, %v, %d: got %d, %d; want %d, %d", seqs, times, every, got, errno, want, wantErrno)
	}
}

func TestExpect(t *testing.T) {
	for _, r := range []struct {
		seqs, times []int
		every, want int
	}{
		{[]int{1, 2, 4}, []int{12, 21, 41}, 10, 51},
		{[]int{5}, []int{0}, 10, 10},
		{[]int{1}, []int{0}, 1, 1},
		{[]int{1}, []int{7}, 3, 10},
		{[]int{1, 2}, []int{10, 20}, 10, 30},
		// The mean is above 0 and is rounded down: 1/2, 1/3, 2/3, 5/3.
		{[]int{1, 2}, []int{10, 21}, 10, 30},
		{[]int{1, 2, 3}, []int{10, 20, 31}, 10, 40},
		{[]int{1, 2, 3}, []int{10, 21, 31}, 10, 40},
		{[]int{1, 2, 3}, []int{12, 22, 31}, 10, 41},
		// The mean is below 0 and is rounded down too: -1/2, -1/3, -2/3, -1, -4/3.
		{[]int{1, 2}, []int{10, 19}, 10, 29},
		{[]int{1, 2, 3}, []int{10, 20, 29}, 10, 39},
		{[]int{1, 2, 3}, []int{10, 19, 29}, 10, 39},
		{[]int{1, 2, 3}, []int{9, 19, 29}, 10, 39},
		{[]int{1, 2, 3}, []int{8, 19, 29}, 10, 38},
		// Times need not increase.
		{[]int{1, 2, 3}, []int{30, 20, 10}, 10, 40},
		{[]int{1, 3, 9}, []int{5, 5, 5}, 10, 61},
		// The result can be below the last time, or far above the greatest time.
		{[]int{1, 2}, []int{0, 1000}, 1, 501},
		{[]int{lastSeq}, []int{0}, most, most},
		{[]int{lastSeq}, []int{latest}, most, latest + most},
		{[]int{1, lastSeq}, []int{latest, 0}, most, (latest-most-most*lastSeq)/2 + most*(lastSeq+1)},
		{[]int{1, lastSeq}, []int{0, 0}, 1, 499999 + 1},
	} {
		checkExpect(t, r.seqs, r.times, r.every, r.want, api.OK)
	}
}

// exactExpect is the formula of the document. Div of math/big rounds down for
// a divisor above 0.
func exactExpect(seqs, times []int, every int) int {
	total := new(big.Int)
	for i := range seqs {
		sent := new(big.Int).Mul(big.NewInt(int64(every)), big.NewInt(int64(seqs[i])))
		total.Add(total, sent.Sub(big.NewInt(int64(times[i])), sent))
	}
	mean := total.Div(total, big.NewInt(int64(len(seqs))))
	next := new(big.Int).Mul(big.NewInt(int64(every)), big.NewInt(int64(seqs[len(seqs)-1]+1)))
	return int(mean.Add(mean, next).Int64())
}

func TestExpectExact(t *testing.T) {
	source := rand.New(rand.NewPCG(15, 1))
	for range 5000 {
		seqs := make([]int, 1+source.IntN(64))
		limit := min(lastSeq, 1<<source.IntN(21))
		for i := range seqs {
			seqs[i] = 1 + source.IntN(limit)
		}
		slices.Sort(seqs)
		seqs = slices.Compact(seqs)
		times := make([]int, len(seqs))
		longest := 1 << source.IntN(31)
		for i := range times {
			times[i] = source.IntN(longest + 1)
		}
		every := 1 + source.IntN(1<<source.IntN(25))
		checkExpect(t, seqs, times, every, exactExpect(seqs, times, every), api.OK)
	}
}

// The greatest numbers in lists of the greatest length do not overflow.
func TestExpectEnds(t *testing.T) {
	early := make([]int, 64)
	late := slices.Repeat([]int{latest}, 64)
	for _, seqs := range [][]int{ramp(1, 64), ramp(lastSeq-63, 64)} {
		for _, times := range [][]int{early, late} {
			for _, every := range []int{1, most} {
				checkExpect(t, seqs, times, every, exactExpect(seqs, times, every), api.OK)
			}
		}
	}
}

// Heartbeats that all arrive after the same delay predict it for the next one.
func TestExpectSteady(t *testing.T) {
	for _, delay := range []int{0, 1, 17} {
		for _, every := range []int{1, 10, 999} {
			seqs := []int{2, 3, 7, 8, 20}
			times := make([]int, len(seqs))
			for i, seq := range seqs {
				times[i] = every*seq + delay
			}
			checkExpect(t, seqs, times, every, every*21+delay, api.OK)
		}
	}
}

func TestExpectErrorOrder(t *testing.T) {
	long, full := ramp(1, 65), ramp(1, 64)
	for _, r := range []struct {
		name        string
		seqs, times []int
		every       int
		want        api.Errno
	}{
		{"both too long", long, long, 1, api.ErrLarge},
		{"seqs too long", long, full, 1, api.ErrLarge},
		{"times too long", full, long, 1, api.ErrLarge},
		{"seqs too long, no times", long, nil, 1, api.ErrLarge},
		{"times too long, no seqs", nil, long, 1, api.ErrLarge},
		{"too long, bad every", long, long, 0, api.ErrLarge},
		{"too long, bad numbers", make([]int, 65), slices.Repeat([]int{-1}, 65), 0, api.ErrLarge},
		{"bad every, different lengths", []int{1}, nil, 0, api.ErrArg},
		{"bad every, empty", nil, nil, 0, api.ErrArg},
		{"bad every, bad numbers", []int{0}, []int{-1}, 0, api.ErrArg},
		{"seqs longer", []int{1, 2}, []int{1}, 1, api.ErrForm},
		{"times longer", []int{1}, []int{1, 2}, 1, api.ErrForm},
		{"no seqs", nil, []int{1}, 1, api.ErrForm},
		{"no times", []int{1}, nil, 1, api.ErrForm},
		{"of the greatest length", full, full[:63], 1, api.ErrForm},
		{"different lengths, bad seq", []int{0, 1}, []int{1}, 1, api.ErrForm},
		{"different lengths, not increasing", []int{2, 1}, []int{1}, 1, api.ErrForm},
		{"different lengths, bad time", []int{1}, []int{-1, 1}, 1, api.ErrForm},
		{"nil", nil, nil, 1, api.ErrNone},
		{"empty", []int{}, []int{}, most, api.ErrNone},
		{"nil and empty", nil, []int{}, 1, api.ErrNone},
		{"of the greatest length, not increasing", make([]int, 64), full, 1, api.ErrArg},
	} {
		got, errno := Expect(r.seqs, r.times, r.every)
		if got != 0 || errno != r.want {
			t.Errorf("%s: got %d, %d; want %d", r.name, got, errno, r.want)
		}
	}
}

func TestExpectBadEvery(t *testing.T) {
	for _, every := range append(badValues(), 0) {
		checkExpect(t, []int{1, 2, 4}, []int{12, 21, 41}, every, 0, api.ErrArg)
	}
}

// A wrong number is found wherever it is.
func TestExpectBadNumbers(t *testing.T) {
	for _, count := range []int{1, 2, 3, 64} {
		for at := range count {
			for _, n := range badSeqs() {
				seqs := ramp(1, count)
				seqs[at] = n
				checkExpect(t, seqs, ramp(0, count), 10, 0, api.ErrArg)
			}
			for _, n := range badTimes() {
				times := ramp(0, count)
				times[at] = n
				checkExpect(t, ramp(1, count), times, 10, 0, api.ErrArg)
			}
		}
	}
}

// A number equal to the one before it, or below it, is found wherever it is.
func TestExpectNotIncreasing(t *testing.T) {
	for at := 1; at < 64; at++ {
		for _, step := range []int{0, 1, 5} {
			seqs := ramp(100, 64)
			seqs[at] = seqs[at-1] - step
			checkExpect(t, seqs, ramp(0, 64), 10, 0, api.ErrArg)
		}
	}
	checkExpect(t, []int{2, 2}, []int{1, 1}, 1, 0, api.ErrArg)
	checkExpect(t, []int{1, 3, 2}, []int{1, 1, 1}, 1, 0, api.ErrArg)
	checkExpect(t, []int{lastSeq, lastSeq}, []int{1, 1}, 1, 0, api.ErrArg)
	checkExpect(t, []int{lastSeq, 1}, []int{1, 1}, 1, 0, api.ErrArg)
}

func TestExpectKeepsLists(t *testing.T) {
	seqs, times := []int{1, 2, 4, 77, 78}, []int{12, 21, 41, 87, 88}
	checkExpect(t, seqs[:3], times[:3], 10, 51, api.OK)
	if !slices.Equal(seqs, []int{1, 2, 4, 77, 78}) || !slices.Equal(times, []int{12, 21, 41, 87, 88}) {
		t.Errorf("the lists have changed: %v, %v", seqs, times)
	}
}

func checkLate(t *testing.T, w api.Window, since, slack int, want bool, wantErrno api.Errno) {
	t.Helper()
	got, errno := Late(w, since, slack)
	if got != want || errno != wantErrno {
		t.Errorf("Late %v, %d, %d: got %t, %d; want %t, %d", w, since, slack, got, errno, want, wantErrno)
	}
}

// The bound is the greatest value plus the slack, and is not late itself.
func TestLate(t *testing.T) {
	for _, r := range []struct {
		vals         []int
		slack, bound int
	}{
		{[]int{4, 9}, 2, 11},
		{[]int{9, 4}, 2, 11},
		{[]int{4, 9, 4}, 0, 9},
		{[]int{0}, 0, 0},
		{[]int{0}, 5, 5},
		{[]int{0, 0, 0}, most, most},
		{[]int{most}, 0, most},
		{[]int{1, most, 2}, most, 2 * most},
		{append(make([]int, 63), 7), 1, 8},
		{append([]int{7}, make([]int, 63)...), 1, 8},
	} {
		for _, capacity := range []int{len(r.vals), 64} {
			w := api.Window{Cap: capacity, Vals: r.vals}
			for _, since := range []int{0, r.bound / 2, r.bound - 1, r.bound} {
				if since >= 0 {
					checkLate(t, w, since, r.slack, false, api.OK)
				}
			}
			for _, since := range []int{r.bound + 1, r.bound + 2, latest - 1, latest} {
				checkLate(t, w, since, r.slack, true, api.OK)
			}
		}
	}
}

// Each value alone must be exceeded.
func TestLateEachValue(t *testing.T) {
	source := rand.New(rand.NewPCG(43, 1))
	for range 2000 {
		vals := make([]int, 1+source.IntN(64))
		limit := 1 << source.IntN(25)
		for i := range vals {
			vals[i] = source.IntN(limit + 1)
		}
		since, slack := source.IntN(2*limit+2), source.IntN(limit+1)
		want := true
		for _, n := range vals {
			want = want && since-slack > n
		}
		checkLate(t, api.Window{Cap: 64, Vals: vals}, since, slack, want, api.OK)
	}
}

func TestLateErrors(t *testing.T) {
	w := api.Window{Cap: 3, Vals: []int{4, 9}}
	empty := api.Window{Cap: 3}
	for _, since := range badTimes() {
		checkLate(t, w, since, 2, false, api.ErrArg)
		checkLate(t, empty, since, 2, false, api.ErrArg)
	}
	for _, slack := range badValues() {
		checkLate(t, w, 100, slack, false, api.ErrArg)
		checkLate(t, empty, 100, slack, false, api.ErrArg)
	}
	for _, r := range []struct {
		w            api.Window
		since, slack int
		want         api.Errno
	}{
		{api.Window{}, 1, 1, api.ErrArg},
		{api.Window{Cap: 65}, 1, 1, api.ErrArg},
		{api.Window{Cap: -1, Vals: []int{1}}, 1, 1, api.ErrArg},
		{api.Window{Cap: 65, Vals: make([]int, 66)}, 1, 1, api.ErrArg},
		{api.Window{Cap: 2, Vals: []int{1, 2, 3}}, 1, 1, api.ErrLarge},
		{api.Window{Cap: 2, Vals: []int{1, 2, 3}}, -1, -1, api.ErrLarge},
		{api.Window{Cap: 2, Vals: []int{-1, 2, 3}}, 1, 1, api.ErrLarge},
		{api.Window{Cap: 3, Vals: []int{1, -1}}, 100, 1, api.ErrArg},
		{api.Window{Cap: 3, Vals: []int{most + 1}}, latest, 1, api.ErrArg},
		{empty, 0, 0, api.ErrNone},
		{empty, latest, most, api.ErrNone},
		{api.Window{Cap: 64, Vals: []int{}}, 1, 1, api.ErrNone},
	} {
		checkLate(t, r.w, r.since, r.slack, false, r.want)
	}
}

// The window and its spare capacity stay as they are.
func TestLateKeepsWindow(t *testing.T) {
	memory := []int{9, 4, 7, 77, 78}
	checkLate(t, api.Window{Cap: 3, Vals: memory[:3]}, 12, 2, true, api.OK)
	if !slices.Equal(memory, []int{9, 4, 7, 77, 78}) {
		t.Errorf("the window has changed: %v", memory)
	}
}
