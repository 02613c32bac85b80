package stat

import (
	"math"
	"math/big"
	"math/rand/v2"
	"slices"
	"testing"

	"heartwood/api"
)

const most = api.MaxVal

var zero = api.Sums{}

// full is the greatest summary: 64 times the greatest value.
var full = api.Sums{N: 64, Sum: 64 * most, Sq: 64 * most * most}

type row struct {
	s    api.Sums
	want api.Errno
}

func checkRows() []row {
	return []row{
		{zero, api.OK},
		{api.Sums{N: 1}, api.OK},
		{api.Sums{N: 64}, api.OK},
		{api.Sums{N: 1, Sum: 1, Sq: 1}, api.OK},
		{api.Sums{N: 1, Sum: most, Sq: most * most}, api.OK},
		{api.Sums{N: 3, Sum: 12, Sq: 74}, api.OK},
		{full, api.OK},
		{api.Sums{N: 64, Sum: 64, Sq: 64}, api.OK},

		{api.Sums{N: -1}, api.ErrArg},
		{api.Sums{N: 65}, api.ErrArg},
		{api.Sums{N: 65, Sum: 65, Sq: 65}, api.ErrArg},
		{api.Sums{N: math.MinInt}, api.ErrArg},
		{api.Sums{N: math.MaxInt}, api.ErrArg},
		{api.Sums{N: -1, Sum: -1, Sq: -1}, api.ErrArg},
		{api.Sums{N: 1<<32 + 1, Sum: 1, Sq: 1}, api.ErrArg},

		{api.Sums{N: 1, Sum: -1}, api.ErrArg},
		{api.Sums{N: 1, Sum: -1, Sq: 1}, api.ErrArg},
		{api.Sums{N: 1, Sum: math.MinInt}, api.ErrArg},
		{api.Sums{N: 1, Sum: -1 << 40, Sq: -1 << 50}, api.ErrArg},
		{api.Sums{Sum: 1, Sq: 1}, api.ErrArg},
		{api.Sums{N: 1, Sum: most + 1, Sq: most * most}, api.ErrArg},
		{api.Sums{N: 64, Sum: 64*most + 1, Sq: 64 * most * most}, api.ErrArg},
		{api.Sums{N: 2, Sum: math.MaxInt, Sq: math.MaxInt}, api.ErrArg},
		{api.Sums{N: 2, Sum: 1 << 32, Sq: 1 << 32}, api.ErrArg},

		{api.Sums{Sq: 1}, api.ErrArg},
		{api.Sums{Sq: -1}, api.ErrArg},
		{api.Sums{N: 1, Sq: 1}, api.ErrArg},
		{api.Sums{N: 5, Sum: 4, Sq: 3}, api.ErrArg},
		{api.Sums{N: 5, Sum: 4, Sq: math.MinInt}, api.ErrArg},
		{api.Sums{N: 5, Sum: 4, Sq: 4 * most}, api.OK},
		{api.Sums{N: 5, Sum: 4, Sq: 4*most + 1}, api.ErrArg},
		{api.Sums{N: 5, Sum: 4, Sq: math.MaxInt}, api.ErrArg},
		{api.Sums{N: 64, Sum: 64 * most, Sq: 64*most*most + 1}, api.ErrArg},
		// Too small for the sum as well, but ErrArg comes first.
		{api.Sums{N: 2, Sum: 10, Sq: 9}, api.ErrArg},

		{api.Sums{N: 2, Sum: 4, Sq: 7}, api.ErrSum},
		{api.Sums{N: 2, Sum: 4, Sq: 8}, api.OK},
		{api.Sums{N: 2, Sum: 5, Sq: 12}, api.ErrSum},
		{api.Sums{N: 2, Sum: 5, Sq: 13}, api.OK},
		{api.Sums{N: 1, Sum: 2, Sq: 2}, api.ErrSum},
		{api.Sums{N: 2, Sum: 10, Sq: 10}, api.ErrSum},
		{api.Sums{N: 64, Sum: 64 * most, Sq: 64*most*most - 1}, api.ErrSum},
		{api.Sums{N: 64, Sum: 64 * most, Sq: 64 * most}, api.ErrSum},
		{api.Sums{N: 1, Sum: most, Sq: most*most - 1}, api.ErrSum},
		// No value has this square; the bounds alone count.
		{api.Sums{N: 1, Sum: 2, Sq: 5}, api.OK},
	}
}

func TestCheckRows(t *testing.T) {
	for _, r := range checkRows() {
		if errno := Check(r.s); errno != r.want {
			t.Errorf("Check(%v) = %d; want %d", r.s, errno, r.want)
		}
	}
}

// exactCheck states P16 in numbers of any size.
func exactCheck(s api.Sums) api.Errno {
	n, sum, sq := big.NewInt(int64(s.N)), big.NewInt(int64(s.Sum)), big.NewInt(int64(s.Sq))
	none, top := new(big.Int), big.NewInt(most)
	within := func(x, low, high *big.Int) bool { return x.Cmp(low) >= 0 && x.Cmp(high) <= 0 }
	switch {
	case !within(n, none, big.NewInt(64)),
		!within(sum, none, new(big.Int).Mul(n, top)),
		!within(sq, sum, new(big.Int).Mul(sum, top)):
		return api.ErrArg
	case new(big.Int).Mul(n, sq).Cmp(new(big.Int).Mul(sum, sum)) < 0:
		return api.ErrSum
	}
	return api.OK
}

func TestCheckIsExact(t *testing.T) {
	for n := -1; n <= 4; n++ {
		for sum := -1; sum <= 12; sum++ {
			for sq := -1; sq <= 150; sq++ {
				checkOne(t, api.Sums{N: n, Sum: sum, Sq: sq})
			}
		}
	}
	// Every field at every power of two, where products would wrap.
	edges := []int{math.MinInt, math.MaxInt, 0}
	for i := range 63 {
		edges = append(edges, 1<<i, 1<<i-1, -1<<i)
	}
	for _, n := range []int{math.MinInt, -1, 0, 1, 2, 7, 63, 64, 65, 128, 1 << 32, 1 << 40, math.MaxInt} {
		for _, sum := range edges {
			for _, sq := range edges {
				checkOne(t, api.Sums{N: n, Sum: sum, Sq: sq})
			}
		}
	}
}

func checkOne(t *testing.T, s api.Sums) {
	t.Helper()
	if errno, want := Check(s), exactCheck(s); errno != want {
		t.Errorf("Check(%v) = %d; want %d", s, errno, want)
	}
}

// All functions that take a summary pass on its error before any other, with
// zero values.
func TestInvalidSummaries(t *testing.T) {
	for _, r := range checkRows() {
		if r.want == api.OK {
			continue
		}
		for _, n := range []int{0, 1, -1, most + 1} {
			got, errno := Add(r.s, n)
			checkSums(t, "Add", got, errno, zero, r.want)
			got, errno = Less(r.s, n)
			checkSums(t, "Less", got, errno, zero, r.want)
		}
		for _, other := range []api.Sums{zero, full} {
			got, errno := Join(r.s, other)
			checkSums(t, "Join, left", got, errno, zero, r.want)
			got, errno = Join(other, r.s)
			checkSums(t, "Join, right", got, errno, zero, r.want)
		}
		mean, errno := Mean(r.s)
		checkInt(t, "Mean", mean, errno, 0, r.want)
		size, errno := Spread(r.s)
		checkInt(t, "Spread", size, errno, 0, r.want)
	}
}

func checkSums(t *testing.T, name string, got api.Sums, errno api.Errno, want api.Sums, wantErrno api.Errno) {
	t.Helper()
	if got != want || errno != wantErrno {
		t.Errorf("%s: got %v, %d; want %v, %d", name, got, errno, want, wantErrno)
	}
}

func checkInt(t *testing.T, name string, got int, errno api.Errno, want int, wantErrno api.Errno) {
	t.Helper()
	if got != want || errno != wantErrno {
		t.Errorf("%s: got %d, %d; want %d, %d", name, got, errno, want, wantErrno)
	}
}

func TestOfRows(t *testing.T) {
	for _, r := range []struct {
		name  string
		l     []int
		want  api.Sums
		errno api.Errno
	}{
		{"nil", nil, zero, api.OK},
		{"empty", []int{}, zero, api.OK},
		{"0", []int{0}, api.Sums{N: 1}, api.OK},
		{"1, 3, 8", []int{1, 3, 8}, api.Sums{N: 3, Sum: 12, Sq: 74}, api.OK},
		{"8, 1, 3", []int{8, 1, 3}, api.Sums{N: 3, Sum: 12, Sq: 74}, api.OK},
		{"5, 5", []int{5, 5}, api.Sums{N: 2, Sum: 10, Sq: 50}, api.OK},
		{"the greatest", []int{most}, api.Sums{N: 1, Sum: most, Sq: most * most}, api.OK},
		{"64 of the greatest", slices.Repeat([]int{most}, 64), full, api.OK},
		{"64 times 0", make([]int, 64), api.Sums{N: 64}, api.OK},
		{"65 times 0", make([]int, 65), zero, api.ErrLarge},
		{"65 of no value", slices.Repeat([]int{-1}, 65), zero, api.ErrLarge},
		{"-1 at the end", []int{1, 2, -1}, zero, api.ErrArg},
		{"too great at the front", []int{most + 1, 1}, zero, api.ErrArg},
		{"least", []int{math.MinInt}, zero, api.ErrArg},
		{"greatest", []int{math.MaxInt}, zero, api.ErrArg},
	} {
		got, errno := Of(r.l)
		checkSums(t, "Of "+r.name, got, errno, r.want, r.errno)
	}
}

// lists returns the same lists on each run: of all lengths, with small and
// with great values.
func lists(seed uint64, count int) [][]int {
	source := rand.New(rand.NewPCG(seed, 1))
	all := make([][]int, count)
	for i := range all {
		limit := 1 << source.IntN(25)
		l := make([]int, source.IntN(65))
		for k := range l {
			l[k] = source.IntN(limit + 1)
		}
		all[i] = l
	}
	return all
}

// exactSums returns the three sums of l, in numbers of any size.
func exactSums(l []int) (n, sum, sq *big.Int) {
	n, sum, sq = big.NewInt(int64(len(l))), new(big.Int), new(big.Int)
	for _, v := range l {
		x := big.NewInt(int64(v))
		sum.Add(sum, x)
		sq.Add(sq, new(big.Int).Mul(x, x))
	}
	return n, sum, sq
}

func of(t *testing.T, l []int) api.Sums {
	t.Helper()
	s, errno := Of(l)
	if errno != api.OK {
		t.Fatalf("Of(%v): %d", l, errno)
	}
	return s
}

func TestListsAreExact(t *testing.T) {
	for _, l := range lists(41, 3000) {
		s := of(t, l)
		n, sum, sq := exactSums(l)
		if int64(s.N) != n.Int64() || int64(s.Sum) != sum.Int64() || int64(s.Sq) != sq.Int64() {
			t.Errorf("Of(%v) = %v; want %v, %v, %v", l, s, n, sum, sq)
		}
		if errno := Check(s); errno != api.OK {
			t.Errorf("Check(%v) = %d; want OK", s, errno)
		}
		size, errno := Spread(s)
		exact := new(big.Int).Mul(n, sq)
		exact.Sub(exact, new(big.Int).Mul(sum, sum))
		checkInt(t, "Spread", size, errno, int(exact.Int64()), api.OK)
		if len(l) > 0 {
			mean, errno := Mean(s)
			checkInt(t, "Mean", mean, errno, int(new(big.Int).Div(sum, n).Int64()), api.OK)
		}
	}
}

// A summary is the same, whether its list is summed at once, value by value,
// or in two parts.
func TestListsInParts(t *testing.T) {
	for i, l := range lists(42, 2000) {
		whole, step := of(t, l), zero
		for _, n := range l {
			var errno api.Errno
			step, errno = Add(step, n)
			if errno != api.OK {
				t.Fatalf("Add of %d: %d", n, errno)
			}
		}
		checkSums(t, "Add", step, api.OK, whole, api.OK)
		cut := i % (len(l) + 1)
		joined, errno := Join(of(t, l[:cut]), of(t, l[cut:]))
		checkSums(t, "Join", joined, errno, whole, api.OK)
		for _, n := range l[cut:] {
			step, errno = Less(step, n)
			if errno != api.OK {
				t.Fatalf("Less of %d: %d", n, errno)
			}
		}
		checkSums(t, "Less", step, api.OK, of(t, l[:cut]), api.OK)
	}
}

type change struct {
	s     api.Sums
	n     int
	want  api.Sums
	errno api.Errno
}

func TestAddRows(t *testing.T) {
	most63 := api.Sums{N: 63, Sum: 63 * most, Sq: 63 * most * most}
	for _, r := range []change{
		{zero, 0, api.Sums{N: 1}, api.OK},
		{zero, most, api.Sums{N: 1, Sum: most, Sq: most * most}, api.OK},
		{api.Sums{N: 3, Sum: 12, Sq: 74}, 5, api.Sums{N: 4, Sum: 17, Sq: 99}, api.OK},
		{most63, most, full, api.OK},
		{api.Sums{N: 63}, 0, api.Sums{N: 64}, api.OK},
		{zero, -1, zero, api.ErrArg},
		{zero, most + 1, zero, api.ErrArg},
		{zero, math.MinInt, zero, api.ErrArg},
		{zero, math.MaxInt, zero, api.ErrArg},
		{api.Sums{N: 64}, 0, zero, api.ErrLarge},
		{full, 1, zero, api.ErrLarge},
		// Full as well, but ErrArg comes first.
		{full, -1, zero, api.ErrArg},
		{full, most + 1, zero, api.ErrArg},
	} {
		got, errno := Add(r.s, r.n)
		checkSums(t, "Add", got, errno, r.want, r.errno)
	}
}

func TestLessRows(t *testing.T) {
	pair := api.Sums{N: 2, Sum: 4, Sq: 10} // of 1 and 3
	for _, r := range []change{
		{pair, 1, api.Sums{N: 1, Sum: 3, Sq: 9}, api.OK},
		{pair, 3, api.Sums{N: 1, Sum: 1, Sq: 1}, api.OK},
		{api.Sums{N: 1}, 0, zero, api.OK},
		{api.Sums{N: 1, Sum: most, Sq: most * most}, most, zero, api.OK},
		{full, most, api.Sums{N: 63, Sum: 63 * most, Sq: 63 * most * most}, api.OK},
		// 2 is not one of the values, but what is left is a summary.
		{pair, 2, api.Sums{N: 1, Sum: 2, Sq: 6}, api.OK},

		{zero, 0, zero, api.ErrNone},
		{zero, 1, zero, api.ErrNone},
		{api.Sums{N: 1}, 1, zero, api.ErrNone},                             // the sum would be negative
		{api.Sums{N: 1, Sum: 5, Sq: 25}, 0, zero, api.ErrNone},             // a sum without values
		{api.Sums{N: 1, Sum: 5, Sq: 26}, 5, zero, api.ErrNone},             // a square without values
		{api.Sums{N: 3, Sum: 7, Sq: 17}, 4, zero, api.ErrNone},             // squares below the sum
		{api.Sums{N: 2, Sum: most, Sq: most * most}, 1, zero, api.ErrNone}, // squares above the limit
		{pair, 0, zero, api.ErrNone},                                       // ErrSum for the result
		{pair, 4, zero, api.ErrNone},
		{full, 0, zero, api.ErrNone},

		{pair, -1, zero, api.ErrArg},
		{pair, most + 1, zero, api.ErrArg},
		{pair, math.MinInt, zero, api.ErrArg},
		{pair, math.MaxInt, zero, api.ErrArg},
		// Nothing to remove as well, but ErrArg comes first.
		{zero, -1, zero, api.ErrArg},
		{zero, most + 1, zero, api.ErrArg},
	} {
		got, errno := Less(r.s, r.n)
		if got != r.want || errno != r.errno {
			t.Errorf("Less(%v, %d) = %v, %d; want %v, %d", r.s, r.n, got, errno, r.want, r.errno)
		}
	}
}

// The result of Less, or its error, follows from P16 alone.
func TestLessFollowsCheck(t *testing.T) {
	for _, l := range lists(43, 500) {
		s := of(t, l)
		for _, n := range []int{0, 1, 2, 3, 10, 1000, most / 2, most - 1, most} {
			want, wantErrno := api.Sums{N: s.N - 1, Sum: s.Sum - n, Sq: s.Sq - n*n}, api.OK
			if exactCheck(want) != api.OK {
				want, wantErrno = zero, api.ErrNone
			}
			got, errno := Less(s, n)
			checkSums(t, "Less", got, errno, want, wantErrno)
		}
	}
}

func TestJoinRows(t *testing.T) {
	some := api.Sums{N: 3, Sum: 12, Sq: 74}
	half := api.Sums{N: 32, Sum: 32 * most, Sq: 32 * most * most}
	for _, r := range []struct {
		s, t, want api.Sums
		errno      api.Errno
	}{
		{zero, zero, zero, api.OK},
		{zero, some, some, api.OK},
		{some, zero, some, api.OK},
		{some, some, api.Sums{N: 6, Sum: 24, Sq: 148}, api.OK},
		{some, api.Sums{N: 1, Sum: 5, Sq: 25}, api.Sums{N: 4, Sum: 17, Sq: 99}, api.OK},
		{half, half, full, api.OK},
		{full, zero, full, api.OK},
		{full, api.Sums{N: 1}, zero, api.ErrLarge},
		{api.Sums{N: 1}, full, zero, api.ErrLarge},
		{api.Sums{N: 33}, api.Sums{N: 32}, zero, api.ErrLarge},
		{full, full, zero, api.ErrLarge},
	} {
		got, errno := Join(r.s, r.t)
		checkSums(t, "Join", got, errno, r.want, r.errno)
	}
}

// Of two wrong summaries, the first determines the error.
func TestJoinOrder(t *testing.T) {
	arg, sum := api.Sums{N: 65}, api.Sums{N: 2, Sum: 4, Sq: 7}
	got, errno := Join(arg, sum)
	checkSums(t, "Join", got, errno, zero, api.ErrArg)
	got, errno = Join(sum, arg)
	checkSums(t, "Join", got, errno, zero, api.ErrSum)
}

func TestMeanRows(t *testing.T) {
	for _, r := range []struct {
		s     api.Sums
		want  int
		errno api.Errno
	}{
		{zero, 0, api.ErrNone},
		{api.Sums{N: 1}, 0, api.OK},
		{api.Sums{N: 3, Sum: 12, Sq: 74}, 4, api.OK},
		{api.Sums{N: 3, Sum: 13, Sq: 75}, 4, api.OK},
		{api.Sums{N: 3, Sum: 14, Sq: 75}, 4, api.OK},
		{api.Sums{N: 3, Sum: 15, Sq: 75}, 5, api.OK},
		{api.Sums{N: 64, Sum: 63, Sq: 63}, 0, api.OK},
		{api.Sums{N: 64, Sum: 64*most - 1, Sq: 64*most*most - 2*most + 1}, most - 1, api.OK},
		{full, most, api.OK},
	} {
		got, errno := Mean(r.s)
		checkInt(t, "Mean", got, errno, r.want, r.errno)
	}
}

func TestSpreadRows(t *testing.T) {
	for _, r := range []struct {
		s    api.Sums
		want int
	}{
		{zero, 0},
		{api.Sums{N: 1}, 0},
		{api.Sums{N: 1, Sum: 7, Sq: 49}, 0},
		{api.Sums{N: 3, Sum: 12, Sq: 74}, 78},
		{api.Sums{N: 2, Sum: 4, Sq: 10}, 4},
		{api.Sums{N: 2, Sum: 4, Sq: 8}, 0},
		{full, 0},
		// Half of the values 0, half of them the greatest: the greatest spread.
		{api.Sums{N: 64, Sum: 32 * most, Sq: 32 * most * most}, 1 << 58},
	} {
		got, errno := Spread(r.s)
		checkInt(t, "Spread", got, errno, r.want, api.OK)
	}
}

func TestOfMemory(t *testing.T) {
	memory := []int{3, 1, 2, -9}
	before := slices.Clone(memory)
	if got := of(t, memory[:3]); got != (api.Sums{N: 3, Sum: 6, Sq: 14}) {
		t.Errorf("Of = %v", got)
	}
	Of(memory)
	if !slices.Equal(memory, before) {
		t.Errorf("the argument became %v", memory)
	}
}
