package root

import (
	"math"
	"math/big"
	"math/rand/v2"
	"testing"

	"heartwood/api"
)

const most = math.MaxUint64

var (
	zero = api.Wide{}
	one  = api.Wide{Lo: 1}
	full = api.Wide{Hi: most, Lo: most}
)

// edges returns all pairs of words at which squares and shifts go from one
// word to two, or out of two.
func edges() []api.Wide {
	words := []uint64{0, 1, 2, 3, 4, 10, 1<<32 - 1, 1 << 32, 1<<32 + 1, 1<<63 - 1, 1 << 63, 1<<63 + 1, most - 1, most, 0x0123456789abcdef}
	var all []api.Wide
	for _, hi := range words {
		for _, lo := range words {
			all = append(all, api.Wide{Hi: hi, Lo: lo})
		}
	}
	return all
}

// mixed returns the same values on each run, of all bit lengths alike.
func mixed(seed uint64, count int) []api.Wide {
	source := rand.New(rand.NewPCG(seed, 1))
	all := make([]api.Wide, count)
	for i := range all {
		n := uint(source.IntN(129))
		value := new(big.Int).Rsh(toBig(api.Wide{Hi: source.Uint64(), Lo: source.Uint64()}), n)
		all[i], _ = fromBig(value)
	}
	return all
}

func toBig(a api.Wide) *big.Int {
	n := new(big.Int).SetUint64(a.Hi)
	n.Lsh(n, 64)
	return n.Or(n, new(big.Int).SetUint64(a.Lo))
}

// fromBig is false if n is not from 0 to 2^128 - 1.
func fromBig(n *big.Int) (api.Wide, bool) {
	if n.Sign() < 0 || n.BitLen() > 128 {
		return zero, false
	}
	low := new(big.Int).And(n, new(big.Int).SetUint64(most))
	return api.Wide{Hi: new(big.Int).Rsh(n, 64).Uint64(), Lo: low.Uint64()}, true
}

func TestRootRows(t *testing.T) {
	for _, r := range []struct {
		a    api.Wide
		want uint64
	}{
		{zero, 0},
		{one, 1},
		{api.Wide{Lo: 3}, 1},
		{api.Wide{Lo: 4}, 2},
		{api.Wide{Lo: 24}, 4},
		{api.Wide{Lo: 25}, 5},
		{api.Wide{Lo: 26}, 5},
		{api.Wide{Lo: most}, 1<<32 - 1},
		{api.Wide{Hi: 1}, 1 << 32},
		{api.Wide{Hi: 1 << 62}, 1 << 63},
		{api.Wide{Hi: 1<<62 - 1, Lo: most}, 1<<63 - 1},
		// (2^64 - 1)^2, and 1 less.
		{api.Wide{Hi: most - 1, Lo: 1}, most},
		{api.Wide{Hi: most - 1}, most - 1},
		{full, most},
	} {
		if got := Root(r.a); got != r.want {
			t.Errorf("Root(%v) = %d; want %d", r.a, got, r.want)
		}
	}
}

func checkRoot(t *testing.T, a api.Wide) {
	t.Helper()
	want := new(big.Int).Sqrt(toBig(a)).Uint64()
	if got := Root(a); got != want {
		t.Errorf("Root(%v) = %d; want %d", a, got, want)
	}
}

func TestRootIsExact(t *testing.T) {
	for _, a := range edges() {
		checkRoot(t, a)
	}
	for _, a := range mixed(21, 5000) {
		checkRoot(t, a)
	}
	for n := range uint64(2000) {
		checkRoot(t, api.Wide{Lo: n})
	}
}

func TestRootNearSquares(t *testing.T) {
	for _, value := range mixed(22, 5000) {
		root := toBig(api.Wide{Lo: value.Lo})
		square := new(big.Int).Mul(root, root)
		for _, step := range []int64{-1, 0, 1} {
			if a, fits := fromBig(new(big.Int).Add(square, big.NewInt(step))); fits {
				checkRoot(t, a)
			}
		}
	}
}

func TestPowerRows(t *testing.T) {
	for _, r := range []struct {
		a     api.Wide
		n     int
		want  api.Wide
		errno api.Errno
	}{
		{zero, 0, one, api.OK},
		{zero, 1, zero, api.OK},
		{zero, 127, zero, api.OK},
		{one, 0, one, api.OK},
		{one, 127, one, api.OK},
		{full, 0, one, api.OK},
		{full, 1, full, api.OK},
		{full, 2, zero, api.ErrLarge},
		{full, 127, zero, api.ErrLarge},
		{api.Wide{Lo: 3}, 4, api.Wide{Lo: 81}, api.OK},
		{api.Wide{Lo: 2}, 63, api.Wide{Lo: 1 << 63}, api.OK},
		{api.Wide{Lo: 2}, 64, api.Wide{Hi: 1}, api.OK},
		{api.Wide{Lo: 2}, 127, api.Wide{Hi: 1 << 63}, api.OK},
		{api.Wide{Lo: 4}, 63, api.Wide{Hi: 1 << 62}, api.OK},
		{api.Wide{Lo: 4}, 64, zero, api.ErrLarge},
		{api.Wide{Lo: 10}, 38, api.Wide{Hi: 5421010862427522170, Lo: 687399551400673280}, api.OK},
		{api.Wide{Lo: 10}, 39, zero, api.ErrLarge},
		{api.Wide{Lo: most}, 2, api.Wide{Hi: most - 1, Lo: 1}, api.OK},
		{api.Wide{Lo: most}, 3, zero, api.ErrLarge},
		{api.Wide{Hi: 1}, 1, api.Wide{Hi: 1}, api.OK},
		{api.Wide{Hi: 1}, 2, zero, api.ErrLarge},
	} {
		if got, errno := Power(r.a, r.n); got != r.want || errno != r.errno {
			t.Errorf("Power(%v, %d) = %v, %d; want %v, %d", r.a, r.n, got, errno, r.want, r.errno)
		}
	}
}

// ErrArg comes before ErrLarge, and for a base whose powers stay small too.
func TestPowerOutOfBounds(t *testing.T) {
	for _, n := range []int{math.MinInt, -127, -1, 128, 129, 256, math.MaxInt} {
		for _, a := range []api.Wide{zero, one, {Lo: 2}, {Hi: 1}, full} {
			if got, errno := Power(a, n); got != zero || errno != api.ErrArg {
				t.Errorf("Power(%v, %d) = %v, %d; want ErrArg", a, n, got, errno)
			}
		}
	}
}

func checkPower(t *testing.T, a api.Wide, n int) {
	t.Helper()
	want, fits := fromBig(new(big.Int).Exp(toBig(a), big.NewInt(int64(n)), nil))
	wantErrno := api.OK
	if !fits {
		wantErrno = api.ErrLarge
	}
	if got, errno := Power(a, n); got != want || errno != wantErrno {
		t.Errorf("Power(%v, %d) = %v, %d; want %v, %d", a, n, got, errno, want, wantErrno)
	}
}

func TestPowerIsExact(t *testing.T) {
	for n := range 128 {
		for base := range uint64(50) {
			checkPower(t, api.Wide{Lo: base}, n)
		}
	}
	for n := range 5 {
		for _, a := range edges() {
			checkPower(t, a, n)
		}
		for _, a := range mixed(23, 1000) {
			checkPower(t, a, n)
		}
	}
}

// The greatest base of which a power fits is the root of that power: it and
// the next one are the two sides of ErrLarge.
func TestPowerAtTheLimit(t *testing.T) {
	limit := new(big.Int).Lsh(big.NewInt(1), 128)
	for n := 2; n <= 127; n++ {
		low, high := big.NewInt(1), limit
		for new(big.Int).Sub(high, low).Cmp(big.NewInt(1)) > 0 {
			middle := new(big.Int).Rsh(new(big.Int).Add(low, high), 1)
			if new(big.Int).Exp(middle, big.NewInt(int64(n)), nil).Cmp(limit) < 0 {
				low = middle
			} else {
				high = middle
			}
		}
		last, _ := fromBig(low)
		if got, errno := Power(last, n); got == zero || errno != api.OK {
			t.Errorf("Power(%v, %d) = %v, %d; want OK", last, n, got, errno)
		}
		first, _ := fromBig(high)
		if got, errno := Power(first, n); got != zero || errno != api.ErrLarge {
			t.Errorf("Power(%v, %d) = %v, %d; want ErrLarge", first, n, got, errno)
		}
		checkPower(t, last, n)
	}
}

func TestHalvingsRows(t *testing.T) {
	for _, r := range []struct {
		a, b  api.Wide
		want  int
		errno api.Errno
	}{
		{one, one, 0, api.OK},
		{full, full, 0, api.OK},
		{api.Wide{Lo: 3}, api.Wide{Lo: 3}, 0, api.OK},
		{api.Wide{Lo: 5}, api.Wide{Lo: 3}, 0, api.OK},
		{api.Wide{Lo: 6}, api.Wide{Lo: 3}, 1, api.OK},
		{api.Wide{Lo: 10}, api.Wide{Lo: 3}, 1, api.OK},
		{api.Wide{Lo: 11}, api.Wide{Lo: 3}, 1, api.OK},
		{api.Wide{Lo: 12}, api.Wide{Lo: 3}, 2, api.OK},
		{full, one, 127, api.OK},
		{api.Wide{Hi: 1 << 63}, one, 127, api.OK},
		{api.Wide{Hi: 1<<63 - 1, Lo: most}, one, 126, api.OK},
		{api.Wide{Hi: 1}, one, 64, api.OK},
		{api.Wide{Lo: most}, one, 63, api.OK},
		{full, api.Wide{Lo: most}, 64, api.OK},
		{api.Wide{Hi: most, Lo: 0}, api.Wide{Lo: most}, 64, api.OK},
		{api.Wide{Hi: most - 1, Lo: most}, api.Wide{Lo: most}, 63, api.OK},
		{full, api.Wide{Hi: 1 << 63}, 0, api.OK},
		{zero, zero, 0, api.ErrZero},
		{one, zero, 0, api.ErrZero},
		{full, zero, 0, api.ErrZero},
		{zero, one, 0, api.ErrNone},
		{zero, full, 0, api.ErrNone},
		{api.Wide{Lo: 2}, api.Wide{Lo: 3}, 0, api.ErrNone},
		{api.Wide{Lo: most}, api.Wide{Hi: 1}, 0, api.ErrNone},
		{api.Wide{Hi: most, Lo: most - 1}, full, 0, api.ErrNone},
	} {
		if got, errno := Halvings(r.a, r.b); got != r.want || errno != r.errno {
			t.Errorf("Halvings(%v, %v) = %d, %d; want %d, %d", r.a, r.b, got, errno, r.want, r.errno)
		}
	}
}

// exactHalvings counts the doublings of b.
func exactHalvings(a, b api.Wide) (int, api.Errno) {
	x, y := toBig(a), toBig(b)
	if y.Sign() == 0 {
		return 0, api.ErrZero
	}
	if y.Cmp(x) > 0 {
		return 0, api.ErrNone
	}
	k := 0
	for y.Lsh(y, 1); y.Cmp(x) <= 0; y.Lsh(y, 1) {
		k++
	}
	return k, api.OK
}

func checkHalvings(t *testing.T, a, b api.Wide) {
	t.Helper()
	want, wantErrno := exactHalvings(a, b)
	if got, errno := Halvings(a, b); got != want || errno != wantErrno {
		t.Errorf("Halvings(%v, %v) = %d, %d; want %d, %d", a, b, got, errno, want, wantErrno)
	}
}

func TestHalvingsIsExact(t *testing.T) {
	for _, a := range edges() {
		for _, b := range edges() {
			checkHalvings(t, a, b)
		}
	}
	left, right := mixed(24, 20000), mixed(25, 20000)
	for i := range left {
		checkHalvings(t, left[i], right[i])
	}
}

// A b that is shifted, and its neighbours, are where the count changes.
func TestHalvingsNearShifts(t *testing.T) {
	for i, b := range mixed(26, 5000) {
		grown := new(big.Int).Lsh(toBig(b), uint(i%128))
		for _, step := range []int64{-1, 0, 1} {
			if a, fits := fromBig(new(big.Int).Add(grown, big.NewInt(step))); fits {
				checkHalvings(t, a, b)
			}
		}
	}
}
