package tail

import (
	"math"
	"math/big"
	"math/rand/v2"
	"slices"
	"testing"

	"heartwood/api"
	"heartwood/stat"
)

const (
	most     = api.MaxVal
	mostTime = 1 << 30
)

// pair is the summary of 1 and 3.
var pair = api.Sums{N: 2, Sum: 4, Sq: 10}

// full is the summary of 64 times the greatest value.
var full = api.Sums{N: 64, Sum: 64 * most, Sq: 64 * most * most}

// wideSpread is the summary of the greatest spread, 2^58: half of the values
// are 0, half of them the greatest.
var wideSpread = api.Sums{N: 64, Sum: 32 * most, Sq: 32 * most * most}

type bound struct {
	name  string
	call  func(s api.Sums, n int) (int, api.Errno)
	exact func(s api.Sums, n int) *big.Int
	least int // of n
}

// bounds are the functions that take a summary.
func bounds() []bound {
	return []bound{
		{"Markov", Markov, exactMarkov, 1},
		{"Chebyshev", Chebyshev, exactChebyshev, 1},
		{"Cantelli", Cantelli, exactCantelli, 0},
	}
}

func number(n int) *big.Int { return big.NewInt(int64(n)) }

func times(a, b *big.Int) *big.Int { return new(big.Int).Mul(a, b) }

func minus(a, b *big.Int) *big.Int { return new(big.Int).Sub(a, b) }

func smaller(a, b *big.Int) *big.Int {
	if a.Cmp(b) < 0 {
		return a
	}
	return b
}

func exactSpread(s api.Sums) *big.Int {
	return minus(times(number(s.N), number(s.Sq)), times(number(s.Sum), number(s.Sum)))
}

// exactMarkov, exactChebyshev and exactCantelli state P25 to P27 in numbers of
// any size.
func exactMarkov(s api.Sums, t int) *big.Int {
	return smaller(number(s.N), new(big.Int).Div(number(s.Sum), number(t)))
}

func exactChebyshev(s api.Sums, d int) *big.Int {
	if s.N == 0 {
		return new(big.Int)
	}
	divisor := times(number(s.N), times(number(d), number(d)))
	return smaller(number(s.N), new(big.Int).Div(exactSpread(s), divisor))
}

func exactCantelli(s api.Sums, t int) *big.Int {
	above := minus(times(number(s.N), number(t)), number(s.Sum))
	if above.Sign() <= 0 {
		return number(s.N)
	}
	divisor := new(big.Int).Add(exactSpread(s), times(above, above))
	return new(big.Int).Div(times(number(s.N), exactSpread(s)), divisor)
}

// lists returns the same lists on each run: of all lengths, with small and
// with great values, some of them far from all others.
func lists(seed uint64, count int) [][]int {
	source := rand.New(rand.NewPCG(seed, 1))
	all := make([][]int, count)
	for i := range all {
		limit := 1 << source.IntN(25)
		l := make([]int, source.IntN(65))
		for k := range l {
			l[k] = source.IntN(limit + 1)
			if source.IntN(20) == 0 {
				l[k] = source.IntN(most + 1)
			}
		}
		all[i] = l
	}
	return all
}

func of(t *testing.T, l []int) api.Sums {
	t.Helper()
	s, errno := stat.Of(l)
	if errno != api.OK {
		t.Fatalf("stat.Of(%v): %d", l, errno)
	}
	return s
}

func TestCountRows(t *testing.T) {
	for _, r := range []struct {
		l     []int
		t     int
		want  int
		errno api.Errno
	}{
		{nil, 0, 0, api.OK},
		{[]int{}, -5, 0, api.OK},
		{[]int{1, 3}, 0, 2, api.OK},
		{[]int{1, 3}, 1, 2, api.OK},
		{[]int{1, 3}, 2, 1, api.OK},
		{[]int{1, 3}, 3, 1, api.OK},
		{[]int{1, 3}, 4, 0, api.OK},
		{[]int{9, 2, 9, 4}, 9, 2, api.OK},
		{[]int{0, 0, 0}, 0, 3, api.OK},
		{[]int{0, most}, most, 1, api.OK},
		{[]int{0, most}, most + 1, 0, api.OK},
		// Any integer may be t.
		{[]int{0, most}, -1, 2, api.OK},
		{[]int{0, most}, math.MinInt, 2, api.OK},
		{[]int{0, most}, math.MaxInt, 0, api.OK},
		{[]int{0, most}, mostTime + 1, 0, api.OK},
		{slices.Repeat([]int{7}, 64), 7, 64, api.OK},
		{make([]int, 65), 0, 0, api.ErrLarge},
		{slices.Repeat([]int{-1}, 65), 0, 0, api.ErrLarge},
		{[]int{1, -1}, 0, 0, api.ErrArg},
		{[]int{most + 1, 1}, 0, 0, api.ErrArg},
		{[]int{math.MinInt}, 0, 0, api.ErrArg},
		{[]int{math.MaxInt}, 0, 0, api.ErrArg},
	} {
		if got, errno := Count(r.l, r.t); got != r.want || errno != r.errno {
			t.Errorf("Count(%v, %d) = %d, %d; want %d, %d", r.l, r.t, got, errno, r.want, r.errno)
		}
	}
}

func TestCountMemory(t *testing.T) {
	memory := []int{3, 1, 2, 9}
	before := slices.Clone(memory)
	if got, errno := Count(memory[:3], 2); got != 2 || errno != api.OK {
		t.Errorf("Count = %d, %d; want 2, 0", got, errno)
	}
	if !slices.Equal(memory, before) {
		t.Errorf("the argument became %v", memory)
	}
}

// The error of a summary comes before that of the other argument.
func TestInvalidSummaries(t *testing.T) {
	for _, r := range []struct {
		s    api.Sums
		want api.Errno
	}{
		{api.Sums{N: -1}, api.ErrArg},
		{api.Sums{N: 65}, api.ErrArg},
		{api.Sums{N: math.MaxInt, Sum: math.MaxInt, Sq: math.MaxInt}, api.ErrArg},
		{api.Sums{N: math.MinInt, Sum: math.MinInt, Sq: math.MinInt}, api.ErrArg},
		{api.Sums{N: 1, Sum: -1}, api.ErrArg},
		{api.Sums{N: 1, Sum: most + 1, Sq: most * most}, api.ErrArg},
		{api.Sums{Sum: 1, Sq: 1}, api.ErrArg},
		{api.Sums{N: 5, Sum: 4, Sq: 3}, api.ErrArg},
		{api.Sums{N: 5, Sum: 4, Sq: 4*most + 1}, api.ErrArg},
		{api.Sums{N: 2, Sum: 4, Sq: 7}, api.ErrSum},
		{api.Sums{N: 1, Sum: most, Sq: most}, api.ErrSum},
	} {
		for _, b := range bounds() {
			for _, n := range []int{1, 5, 0, -1, mostTime, mostTime + 1} {
				if got, errno := b.call(r.s, n); got != 0 || errno != r.want {
					t.Errorf("%s(%v, %d) = %d, %d; want 0, %d", b.name, r.s, n, got, errno, r.want)
				}
			}
		}
	}
}

func TestArgumentLimits(t *testing.T) {
	for _, b := range bounds() {
		for _, s := range []api.Sums{{}, {N: 1}, pair, full, wideSpread} {
			for _, n := range []int{math.MinInt, -mostTime, -2, -1, b.least - 1, mostTime + 1, 1 << 31, 1 << 32, 1<<32 + 1, math.MaxInt} {
				if got, errno := b.call(s, n); got != 0 || errno != api.ErrArg {
					t.Errorf("%s(%v, %d) = %d, %d; want 0, 1", b.name, s, n, got, errno)
				}
			}
			for _, n := range []int{b.least, b.least + 1, most, most + 1, mostTime} {
				if _, errno := b.call(s, n); errno != api.OK {
					t.Errorf("%s(%v, %d): %d; want OK", b.name, s, n, errno)
				}
			}
		}
	}
}

type row struct {
	s    api.Sums
	t    int
	want int
}

func checkRows(t *testing.T, name string, call func(s api.Sums, n int) (int, api.Errno), rows []row) {
	t.Helper()
	for _, r := range rows {
		if got, errno := call(r.s, r.t); got != r.want || errno != api.OK {
			t.Errorf("%s(%v, %d) = %d, %d; want %d", name, r.s, r.t, got, errno, r.want)
		}
	}
}

func TestMarkovRows(t *testing.T) {
	checkRows(t, "Markov", Markov, []row{
		{api.Sums{}, 1, 0},
		{api.Sums{N: 5}, 1, 0},
		{pair, 1, 2}, // 4, but there are only 2 values
		{pair, 2, 2},
		{pair, 3, 1},
		{pair, 4, 1},
		{pair, 5, 0},
		{pair, mostTime, 0},
		{full, 1, 64},
		{full, most, 64},
		{full, most + 1, 63},
		{full, mostTime, 1},
		{api.Sums{N: 64, Sum: 64*most - 1, Sq: 64*most*most - 2*most + 1}, mostTime, 0},
		{api.Sums{N: 64, Sum: 64*most - 1, Sq: 64*most*most - 2*most + 1}, most, 63},
	})
}

func TestChebyshevRows(t *testing.T) {
	checkRows(t, "Chebyshev", Chebyshev, []row{
		{api.Sums{}, 1, 0},
		{api.Sums{}, mostTime, 0},
		{api.Sums{N: 5}, 1, 0},
		{pair, 1, 2}, // spread 4, by 2
		{pair, 2, 0}, // spread 4, by 8
		{full, 1, 0},
		{api.Sums{N: 3, Sum: 12, Sq: 74}, 1, 3}, // 26, but there are only 3 values
		{api.Sums{N: 3, Sum: 12, Sq: 74}, 2, 3}, // spread 78, by 12
		{api.Sums{N: 3, Sum: 12, Sq: 74}, 3, 2}, // spread 78, by 27
		{api.Sums{N: 3, Sum: 12, Sq: 74}, 4, 1}, // spread 78, by 48
		{api.Sums{N: 3, Sum: 12, Sq: 74}, 5, 1}, // spread 78, by 75
		{api.Sums{N: 3, Sum: 12, Sq: 74}, 6, 0},
		{wideSpread, 1, 64},
		{wideSpread, most / 2, 64}, // every value is as far away
		{wideSpread, most/2 + 1, 63},
		{wideSpread, most, 16},
		{wideSpread, 4 * most, 1},
		{wideSpread, 4*most + 1, 0},
		{wideSpread, 1 << 29, 0},   // N * d^2 is 2^64
		{wideSpread, mostTime, 0},  // N * d^2 is 2^66
		{wideSpread, 379625063, 0}, // N * d^2 is 2^63 and more
	})
}

func TestCantelliRows(t *testing.T) {
	checkRows(t, "Cantelli", Cantelli, []row{
		{api.Sums{}, 0, 0},
		{api.Sums{}, 1, 0},
		{api.Sums{}, mostTime, 0},
		{api.Sums{N: 5}, 0, 5},
		{api.Sums{N: 5}, 1, 0},
		{pair, 0, 2},
		{pair, 1, 2},
		{pair, 2, 2}, // D is 0
		{pair, 3, 1}, // 2 * 4 / (4 + 4)
		{pair, 4, 0}, // 2 * 4 / (4 + 16)
		{pair, mostTime, 0},
		{api.Sums{N: 3, Sum: 12, Sq: 74}, 4, 3},
		{api.Sums{N: 3, Sum: 12, Sq: 74}, 5, 2}, // 3 * 78 / (78 + 9)
		{api.Sums{N: 3, Sum: 12, Sq: 74}, 6, 2}, // 3 * 78 / (78 + 36)
		{api.Sums{N: 3, Sum: 12, Sq: 74}, 7, 1}, // 3 * 78 / (78 + 81)
		{api.Sums{N: 3, Sum: 12, Sq: 74}, 8, 1}, // 3 * 78 / (78 + 144)
		{api.Sums{N: 3, Sum: 12, Sq: 74}, 9, 0}, // 3 * 78 / (78 + 225)
		{full, most, 64},
		{full, most + 1, 0},
		{full, mostTime, 0},
		{wideSpread, most / 2, 64},
		{wideSpread, most/2 + 1, 63}, // N * V is 2^64
		{wideSpread, most, 32},
		{wideSpread, mostTime, 0}, // D^2 is nearly 2^72
		{api.Sums{N: 64}, mostTime, 0},
	})
}

func edges() []int {
	all := []int{0, mostTime, mostTime - 1, 379625062, 379625063}
	for i := range 30 {
		all = append(all, 1<<i, 1<<i+1, 1<<i-1)
	}
	return all
}

func checkExact(t *testing.T, s api.Sums, n int) {
	t.Helper()
	for _, b := range bounds() {
		if n < b.least || n > mostTime {
			continue
		}
		want := b.exact(s, n)
		if got, errno := b.call(s, n); number(got).Cmp(want) != 0 || errno != api.OK {
			t.Errorf("%s(%v, %d) = %d, %d; want %v", b.name, s, n, got, errno, want)
		}
	}
}

func TestListsAreExact(t *testing.T) {
	for _, l := range lists(61, 1000) {
		s := of(t, l)
		for _, n := range edges() {
			checkExact(t, s, n)
		}
		for _, n := range l {
			checkExact(t, s, n)
			checkExact(t, s, n+1)
		}
		if s.N > 0 {
			for i := -2; i <= 2; i++ {
				checkExact(t, s, s.Sum/s.N+i)
			}
		}
	}
}

// Summaries that no list of values has, but that pass the check.
func TestSummariesAreExact(t *testing.T) {
	for n := range 7 {
		for sum := range 3 * n {
			for sq := range 120 {
				s := api.Sums{N: n, Sum: sum, Sq: sq}
				if stat.Check(s) != api.OK {
					continue
				}
				for at := range 16 {
					checkExact(t, s, at)
				}
			}
		}
	}
	for _, s := range []api.Sums{full, wideSpread, {N: 64, Sum: 1, Sq: most}, {N: 63, Sum: 63 * most / 2, Sq: 63 * most / 2 * most}} {
		for _, at := range edges() {
			checkExact(t, s, at)
		}
	}
}

// No bound is ever less than what it bounds.
func TestBoundsHold(t *testing.T) {
	for _, l := range lists(62, 1000) {
		s := of(t, l)
		for _, v := range l {
			for _, at := range []int{v, v + 1} {
				count, errno := Count(l, at)
				if errno != api.OK {
					t.Fatalf("Count(%v, %d): %d", l, at, errno)
				}
				if top, _ := Cantelli(s, at); top < count {
					t.Errorf("Cantelli(%v, %d) = %d, but it is %d", s, at, top, count)
				}
				if at < 1 {
					continue
				}
				if top, _ := Markov(s, at); top < count {
					t.Errorf("Markov(%v, %d) = %d, but it is %d", s, at, top, count)
				}
				away := countAway(l, s, at)
				if top, _ := Chebyshev(s, at); top < away {
					t.Errorf("Chebyshev(%v, %d) = %d, but it is %d", s, at, top, away)
				}
			}
		}
	}
}

// countAway returns the number of values that differ from the mean by at least
// d, with both sides multiplied by N.
func countAway(l []int, s api.Sums, d int) int {
	count := 0
	for _, v := range l {
		if difference := s.N*v - s.Sum; max(difference, -difference) >= s.N*d {
			count++
		}
	}
	return count
}
