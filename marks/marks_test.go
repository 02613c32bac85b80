package marks

import (
	"math"
	"math/rand/v2"
	"slices"
	"testing"

	"heartwood/api"
)

const (
	latest    = 1 << 30 // end
	mostTurns = 64
)

// turns returns the transcript that changes its output at these times.
func turns(times ...int) []api.Turn {
	l := make([]api.Turn, len(times))
	for i, at := range times {
		l[i] = api.Turn{Time: at, Suspect: i%2 == 0}
	}
	return l
}

// ramp returns the transcript of count transitions, one a tick from 0 on.
func ramp(count int) []api.Turn {
	times := make([]int, count)
	for i := range times {
		times[i] = i
	}
	return turns(times...)
}

// outputs is the naive model of a transcript: the output at each time from 0
// to end, as the transitions leave it one after the other.
func outputs(l []api.Turn, end int) []bool {
	all := make([]bool, end+1)
	for _, turn := range l {
		for at := turn.Time; at <= end; at++ {
			all[at] = turn.Suspect
		}
	}
	return all
}

// marksOf counts what the model says: tick i is from time i to time i+1.
func marksOf(l []api.Turn, end int) api.Marks {
	m := api.Marks{}
	for _, suspected := range outputs(l, end)[:end] {
		if suspected {
			m.Bad++
		} else {
			m.Good++
		}
	}
	for _, turn := range l {
		if turn.Suspect {
			m.Times++
		}
	}
	return m
}

func checkOf(t *testing.T, l []api.Turn, end int, want api.Marks, wantErrno api.Errno) {
	t.Helper()
	if got, errno := Of(l, end); got != want || errno != wantErrno {
		t.Errorf("Of %v, %d: got %v, %d; want %v, %d", l, end, got, errno, want, wantErrno)
	}
}

func checkAt(t *testing.T, l []api.Turn, end, at int, want bool, wantErrno api.Errno) {
	t.Helper()
	if got, errno := At(l, end, at); got != want || errno != wantErrno {
		t.Errorf("At %v, %d, %d: got %v, %d; want %v, %d", l, end, at, got, errno, want, wantErrno)
	}
}

// checkValid checks that l is a transcript, also for Of and At.
func checkValid(t *testing.T, l []api.Turn, end int) {
	t.Helper()
	if errno := Check(l, end); errno != api.OK {
		t.Errorf("Check %v, %d: %d; want OK", l, end, errno)
	}
	if _, errno := Of(l, end); errno != api.OK {
		t.Errorf("Of %v, %d: %d; want OK", l, end, errno)
	}
	if _, errno := At(l, end, end); errno != api.OK {
		t.Errorf("At %v, %d, %d: %d; want OK", l, end, end, errno)
	}
}

// checkInvalid checks that l is not a transcript, also for Of and for At at
// each kind of time.
func checkInvalid(t *testing.T, l []api.Turn, end int, want api.Errno) {
	t.Helper()
	if errno := Check(l, end); errno != want {
		t.Errorf("Check %v, %d: %d; want %d", l, end, errno, want)
	}
	checkOf(t, l, end, api.Marks{}, want)
	for _, at := range []int{math.MinInt, -1, 0, 4, end, latest, latest + 1, math.MaxInt} {
		checkAt(t, l, end, at, false, want)
	}
}

// transcripts returns the same valid transcripts on each run, of all lengths;
// times repeat often, and some are 0 or end.
func transcripts(seed uint64, count int) (all [][]api.Turn, ends []int) {
	source := rand.New(rand.NewPCG(seed, 1))
	for i := range count {
		end := source.IntN(1 + i%120)
		times := make([]int, source.IntN(mostTurns+1))
		for k := range times {
			times[k] = source.IntN(end + 1)
		}
		slices.Sort(times)
		all, ends = append(all, turns(times...)), append(ends, end)
	}
	return all, ends
}

func TestCheckValid(t *testing.T) {
	for _, r := range []struct {
		l   []api.Turn
		end int
	}{
		{nil, 0},
		{nil, 10},
		{nil, latest},
		{[]api.Turn{}, 10},
		{turns(3, 5, 8), 10},
		{turns(3, 5), 10},
		{turns(0), 0},
		{turns(0), 10},
		{turns(10), 10},
		{turns(0, 10), 10},
		// Transitions may have the same time.
		{turns(0, 0), 0},
		{turns(0, 0, 0, 0, 0), 0},
		{turns(3, 3), 10},
		{turns(3, 5, 5, 5, 8), 10},
		{turns(10, 10, 10), 10},
		{turns(latest), latest},
		{turns(0, latest, latest), latest},
	} {
		checkValid(t, r.l, r.end)
	}
}

func TestCheckLengths(t *testing.T) {
	for count := range 200 {
		if count <= mostTurns {
			checkValid(t, ramp(count), 200)
			checkValid(t, turns(make([]int, count)...), 0)
		} else {
			checkInvalid(t, ramp(count), 200, api.ErrLarge)
			checkInvalid(t, turns(make([]int, count)...), 0, api.ErrLarge)
		}
	}
}

// Too many transitions are reported before all other errors.
func TestCheckLargeFirst(t *testing.T) {
	checkInvalid(t, ramp(65), -1, api.ErrLarge)
	checkInvalid(t, ramp(65), latest+1, api.ErrLarge)
	checkInvalid(t, ramp(65), 10, api.ErrLarge)
	checkInvalid(t, make([]api.Turn, 65), 10, api.ErrLarge)
	checkInvalid(t, slices.Repeat([]api.Turn{{Time: -1}}, 65), 10, api.ErrLarge)
}

// badEnds are numbers that are not times.
func badEnds() []int {
	return []int{math.MinInt, -latest, -2, -1, latest + 1, latest + 2, 1 << 31, 1<<32 + 10, math.MaxInt}
}

// The error of end comes before those of the transitions.
func TestCheckEnd(t *testing.T) {
	for _, end := range badEnds() {
		for _, l := range [][]api.Turn{nil, {}, turns(3, 5, 8), turns(-1), turns(8, 3), {{Time: 3}}, ramp(64)} {
			checkInvalid(t, l, end, api.ErrArg)
		}
	}
}

func TestCheckTurns(t *testing.T) {
	for _, r := range []struct {
		name string
		l    []api.Turn
		end  int
		want api.Errno
	}{
		{"first before 0", turns(-1), 10, api.ErrArg},
		{"first far before 0", turns(math.MinInt), 10, api.ErrArg},
		{"first after end", turns(11), 10, api.ErrArg},
		{"first far after end", turns(math.MaxInt), 10, api.ErrArg},
		{"first 2^32 after a valid time", turns(1<<32 + 3), 10, api.ErrArg},
		{"first after end 0", turns(1), 0, api.ErrArg},
		{"first after the latest end", turns(latest + 1), latest, api.ErrArg},
		{"second before first", turns(3, 2), 10, api.ErrArg},
		{"second before 0", turns(3, -1), 10, api.ErrArg},
		{"second after end", turns(3, 11), 10, api.ErrArg},
		{"third before second, after first", turns(3, 5, 4), 10, api.ErrArg},
		{"third after end", turns(3, 5, 11), 10, api.ErrArg},
		{"first to trust", []api.Turn{{Time: 3}}, 10, api.ErrForm},
		{"first to trust at 0", []api.Turn{{}}, 10, api.ErrForm},
		{"first to trust at end", []api.Turn{{Time: 10}}, 10, api.ErrForm},
		{"suspected twice", []api.Turn{{Time: 3, Suspect: true}, {Time: 4, Suspect: true}}, 10, api.ErrForm},
		{"suspected twice at once", []api.Turn{{Time: 3, Suspect: true}, {Time: 3, Suspect: true}}, 10, api.ErrForm},
		{"trusted twice", []api.Turn{{Time: 3, Suspect: true}, {Time: 4}, {Time: 5}}, 10, api.ErrForm},
		// Of one transition the time is reported first.
		{"first to trust before 0", []api.Turn{{Time: -1}}, 10, api.ErrArg},
		{"first to trust after end", []api.Turn{{Time: 11}}, 10, api.ErrArg},
		{"suspected twice, back in time", []api.Turn{{Time: 3, Suspect: true}, {Time: 2, Suspect: true}}, 10, api.ErrArg},
		{"suspected twice, after end", []api.Turn{{Time: 3, Suspect: true}, {Time: 11, Suspect: true}}, 10, api.ErrArg},
		// Of several transitions the first one with an error is reported.
		{"form, then time", []api.Turn{{Time: 3}, {Time: 2, Suspect: true}}, 10, api.ErrForm},
		{"form, then after end", []api.Turn{{Time: 3}, {Time: 11, Suspect: true}}, 10, api.ErrForm},
		{"time, then form", []api.Turn{{Time: 11, Suspect: true}, {Time: 11, Suspect: true}}, 10, api.ErrArg},
		{"time before 0, then form", []api.Turn{{Time: -2, Suspect: true}, {Time: 3, Suspect: true}}, 10, api.ErrArg},
	} {
		t.Run(r.name, func(t *testing.T) {
			checkInvalid(t, r.l, r.end, r.want)
		})
	}
}

// A wrong transition is found wherever it is.
func TestCheckEachPlace(t *testing.T) {
	for count := 1; count <= mostTurns; count++ {
		for at := range count {
			for _, time := range []int{math.MinInt, -1, at - 2, 1000, 1<<32 + at, math.MaxInt} {
				l := ramp(count)
				l[at].Time = time
				checkInvalid(t, l, 999, api.ErrArg)
			}
			l := ramp(count)
			l[at].Suspect = !l[at].Suspect
			checkInvalid(t, l, 999, api.ErrForm)
		}
	}
}

// Lists of random transitions, against the rules applied one by one.
func TestCheckRandom(t *testing.T) {
	source := rand.New(rand.NewPCG(44, 2))
	seen := map[api.Errno]int{}
	for range 20000 {
		end := source.IntN(12)
		l := turns(make([]int, source.IntN(5))...)
		for i := range l {
			l[i].Time = i*3 + source.IntN(5) - 1
			if source.IntN(8) == 0 {
				l[i].Suspect = !l[i].Suspect
			}
		}
		want := api.OK
		for i := len(l) - 1; i >= 0; i-- {
			before := api.Turn{}
			if i > 0 {
				before = l[i-1]
			}
			if l[i].Suspect == before.Suspect {
				want = api.ErrForm
			}
			if l[i].Time < before.Time || l[i].Time > end {
				want = api.ErrArg
			}
		}
		seen[want]++
		if errno := Check(l, end); errno != want {
			t.Errorf("Check %v, %d: %d; want %d", l, end, errno, want)
		}
	}
	for _, errno := range []api.Errno{api.OK, api.ErrArg, api.ErrForm} {
		if seen[errno] < 100 {
			t.Errorf("only %d of the lists should give %d", seen[errno], errno)
		}
	}
}

func TestOf(t *testing.T) {
	for _, r := range []struct {
		l    []api.Turn
		end  int
		want api.Marks
	}{
		{turns(3, 5, 8), 10, api.Marks{Times: 2, Bad: 4, Good: 6}},
		{turns(3, 5), 10, api.Marks{Times: 1, Bad: 2, Good: 8}},
		{turns(3), 10, api.Marks{Times: 1, Bad: 7, Good: 3}},
		{nil, 10, api.Marks{Good: 10}},
		{nil, 0, api.Marks{}},
		{nil, latest, api.Marks{Good: latest}},
		{turns(0), 10, api.Marks{Times: 1, Bad: 10}},
		{turns(0, 10), 10, api.Marks{Times: 1, Bad: 10}},
		{turns(0, 10, 10), 10, api.Marks{Times: 2, Bad: 10}},
		{turns(10), 10, api.Marks{Times: 1, Good: 10}},
		{turns(0), 0, api.Marks{Times: 1}},
		{turns(0, 0), 0, api.Marks{Times: 1}},
		{turns(0, 0, 0), 0, api.Marks{Times: 2}},
		// A suspicion that lasts no tick counts as one.
		{turns(3, 3), 10, api.Marks{Times: 1, Good: 10}},
		{turns(3, 3, 3), 10, api.Marks{Times: 2, Bad: 7, Good: 3}},
		{turns(3, 5, 5, 8), 10, api.Marks{Times: 2, Bad: 5, Good: 5}},
		{turns(0), latest, api.Marks{Times: 1, Bad: latest}},
		{turns(latest), latest, api.Marks{Times: 1, Good: latest}},
		{turns(1, latest-1), latest, api.Marks{Times: 1, Bad: latest - 2, Good: 2}},
		{ramp(64), 64, api.Marks{Times: 32, Bad: 32, Good: 32}},
		{ramp(63), 64, api.Marks{Times: 32, Bad: 33, Good: 31}},
		{ramp(64), latest, api.Marks{Times: 32, Bad: 32, Good: latest - 32}},
		{turns(make([]int, 64)...), 7, api.Marks{Times: 32, Good: 7}},
		{turns(make([]int, 63)...), 7, api.Marks{Times: 32, Bad: 7}},
	} {
		checkOf(t, r.l, r.end, r.want, api.OK)
	}
}

func TestAt(t *testing.T) {
	for _, r := range []struct {
		l    []api.Turn
		end  int
		at   []int
		want bool
	}{
		{turns(3, 5, 8), 10, []int{0, 1, 2, 5, 6, 7}, false},
		{turns(3, 5, 8), 10, []int{3, 4, 8, 9, 10}, true},
		{nil, 10, []int{0, 1, 9, 10}, false},
		{nil, 0, []int{0}, false},
		{turns(0), 0, []int{0}, true},
		{turns(0), 10, []int{0, 1, 10}, true},
		{turns(10), 10, []int{0, 9}, false},
		{turns(10), 10, []int{10}, true},
		{turns(0, 10), 10, []int{0, 9}, true},
		{turns(0, 10), 10, []int{10}, false},
		// Of several transitions at one time the last one counts.
		{turns(3, 3), 10, []int{0, 2, 3, 4, 10}, false},
		{turns(3, 3, 3), 10, []int{3, 4, 10}, true},
		{turns(3, 5, 5), 10, []int{3, 4, 5, 6}, true},
		{turns(0, 0), 0, []int{0}, false},
		{turns(0, 0, 0), 0, []int{0}, true},
		{turns(latest), latest, []int{0, latest - 1}, false},
		{turns(latest), latest, []int{latest}, true},
		{turns(0, latest), latest, []int{0, 1, latest - 1}, true},
		{turns(make([]int, 63)...), 7, []int{0, 7}, true},
		{turns(make([]int, 64)...), 7, []int{0, 7}, false},
	} {
		for _, at := range r.at {
			checkAt(t, r.l, r.end, at, r.want, api.OK)
		}
	}
}

func TestAtErrors(t *testing.T) {
	for _, end := range []int{0, 10, latest} {
		for _, l := range [][]api.Turn{nil, turns(0), turns(end), turns(0, end)} {
			for _, at := range append(badEnds(), end+1, end+2) {
				checkAt(t, l, end, at, false, api.ErrArg)
			}
		}
	}
}

// Of and At give what the naive model gives.
func TestModel(t *testing.T) {
	all, ends := transcripts(45, 3000)
	for i, l := range all {
		end := ends[i]
		checkOf(t, l, end, marksOf(l, end), api.OK)
		for at, want := range outputs(l, end) {
			checkAt(t, l, end, at, want, api.OK)
		}
		checkAt(t, l, end, end+1, false, api.ErrArg)
	}
}

// Every tick is either one of suspicion or one of trust.
func TestOfCountsEachTick(t *testing.T) {
	source := rand.New(rand.NewPCG(46, 2))
	for range 2000 {
		times := make([]int, source.IntN(mostTurns+1))
		end := source.IntN(latest + 1)
		for k := range times {
			times[k] = source.IntN(end + 1)
		}
		slices.Sort(times)
		m, errno := Of(turns(times...), end)
		if errno != api.OK || m.Times != (len(times)+1)/2 || m.Bad < 0 || m.Good < 0 || m.Bad+m.Good != end {
			t.Errorf("Of %v, %d: %v, %d", times, end, m, errno)
		}
	}
}

// What lies behind the end of a transcript is not part of it, and nothing of
// it changes.
func TestMemory(t *testing.T) {
	l := append(turns(3, 5, 8), api.Turn{Time: -1}, api.Turn{Time: 9})
	kept := slices.Clone(l)
	checkValid(t, l[:3], 10)
	checkOf(t, l[:3], 10, api.Marks{Times: 2, Bad: 4, Good: 6}, api.OK)
	checkAt(t, l[:3], 10, 9, true, api.OK)
	checkInvalid(t, l[:4], 10, api.ErrArg)
	if !slices.Equal(l, kept) {
		t.Errorf("%v was changed to %v", kept, l)
	}
	checkValid(t, ramp(100)[:64], 64)
}
