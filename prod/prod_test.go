package prod

import (
	"math"
	"math/big"
	"math/rand/v2"
	"testing"

	"heartwood/api"
)

const most = math.MaxUint64

var zero = api.Wide{}

// edgeWords are words at which products overflow and the guess of a quotient
// is wrong most easily.
func edgeWords() []uint64 {
	return []uint64{0, 1, 2, 3, 10, 1<<32 - 1, 1 << 32, 1<<32 + 1, 1<<63 - 1, 1 << 63, 1<<63 + 1, most - 1, most, 0x0123456789abcdef}
}

func edges() []api.Wide {
	var all []api.Wide
	for _, hi := range edgeWords() {
		for _, lo := range edgeWords() {
			all = append(all, api.Wide{Hi: hi, Lo: lo})
		}
	}
	return all
}

// mixed returns the same values on each run, of all bit lengths alike.
func mixed(seed uint64, count int) []api.Wide {
	source := rand.New(rand.NewPCG(seed, 1))
	all := make([]api.Wide, count)
	for i := range all {
		n := uint(source.IntN(129))
		value := new(big.Int).Rsh(toBig(api.Wide{Hi: source.Uint64(), Lo: source.Uint64()}), n)
		all[i], _ = fromBig(value)
	}
	return all
}

func toBig(a api.Wide) *big.Int {
	n := new(big.Int).SetUint64(a.Hi)
	n.Lsh(n, 64)
	return n.Or(n, new(big.Int).SetUint64(a.Lo))
}

// fromBig is false if n has more than 128 bits.
func fromBig(n *big.Int) (api.Wide, bool) {
	if n.BitLen() > 128 {
		return zero, false
	}
	low := new(big.Int).And(n, new(big.Int).SetUint64(most))
	return api.Wide{Hi: new(big.Int).Rsh(n, 64).Uint64(), Lo: low.Uint64()}, true
}

func checkTimes(t *testing.T, a, b api.Wide) {
	t.Helper()
	want, fits := fromBig(new(big.Int).Mul(toBig(a), toBig(b)))
	wantErrno := api.OK
	if !fits {
		wantErrno = api.ErrLarge
	}
	if got, errno := Times(a, b); got != want || errno != wantErrno {
		t.Errorf("Times(%v, %v) = %v, %d; want %v, %d", a, b, got, errno, want, wantErrno)
	}
}

func checkDiv(t *testing.T, a, b api.Wide) {
	t.Helper()
	quotient, rest, errno := Div(a, b)
	if b == zero {
		if quotient != zero || rest != zero || errno != api.ErrZero {
			t.Errorf("Div(%v, 0) = %v, %v, %d", a, quotient, rest, errno)
		}
		return
	}
	exact, left := new(big.Int).QuoRem(toBig(a), toBig(b), new(big.Int))
	wantQuotient, _ := fromBig(exact)
	wantRest, _ := fromBig(left)
	if quotient != wantQuotient || rest != wantRest || errno != api.OK {
		t.Errorf("Div(%v, %v) = %v, %v, %d; want %v, %v", a, b, quotient, rest, errno, wantQuotient, wantRest)
	}
}

func TestMul(t *testing.T) {
	for _, r := range []struct {
		a, b uint64
		want api.Wide
	}{
		{0, most, zero},
		{6, 7, api.Wide{Lo: 42}},
		{1 << 32, 1 << 32, api.Wide{Hi: 1}},
		{most, 2, api.Wide{Hi: 1, Lo: most - 1}},
		{most, most, api.Wide{Hi: most - 1, Lo: 1}},
	} {
		if got := Mul(r.a, r.b); got != r.want {
			t.Errorf("Mul(%d, %d) = %v; want %v", r.a, r.b, got, r.want)
		}
	}
	for _, a := range edgeWords() {
		for _, b := range edgeWords() {
			want, _ := fromBig(new(big.Int).Mul(toBig(api.Wide{Lo: a}), toBig(api.Wide{Lo: b})))
			if got := Mul(a, b); got != want {
				t.Errorf("Mul(%d, %d) = %v; want %v", a, b, got, want)
			}
		}
	}
}

func TestTimesRows(t *testing.T) {
	full := api.Wide{Hi: most, Lo: most}
	for _, r := range []struct {
		a, b, want api.Wide
		errno      api.Errno
	}{
		{zero, full, zero, api.OK},
		{full, zero, zero, api.OK},
		{full, api.Wide{Lo: 1}, full, api.OK},
		{api.Wide{Lo: 1}, full, full, api.OK},
		{api.Wide{Hi: 2}, api.Wide{Lo: 3}, api.Wide{Hi: 6}, api.OK},
		{api.Wide{Lo: 3}, api.Wide{Hi: 2, Lo: 1 << 63}, api.Wide{Hi: 7, Lo: 1 << 63}, api.OK},
		// 2^128 - 1 is (2^64 - 1) * (2^64 + 1).
		{api.Wide{Lo: most}, api.Wide{Hi: 1, Lo: 1}, full, api.OK},
		{api.Wide{Hi: 1, Lo: 1}, api.Wide{Lo: most}, full, api.OK},
		// The sum of the parts overflows, but no part.
		{api.Wide{Lo: most}, api.Wide{Hi: 1, Lo: 2}, zero, api.ErrLarge},
		{api.Wide{Hi: 1, Lo: 2}, api.Wide{Lo: most}, zero, api.ErrLarge},
		// The part of the high word overflows.
		{api.Wide{Hi: 1 << 63}, api.Wide{Lo: 2}, zero, api.ErrLarge},
		{api.Wide{Lo: 2}, api.Wide{Hi: 1 << 63}, zero, api.ErrLarge},
		{api.Wide{Hi: 1}, api.Wide{Hi: 1}, zero, api.ErrLarge},
		{full, full, zero, api.ErrLarge},
	} {
		if got, errno := Times(r.a, r.b); got != r.want || errno != r.errno {
			t.Errorf("Times(%v, %v) = %v, %d; want %v, %d", r.a, r.b, got, errno, r.want, r.errno)
		}
	}
}

func TestDivRows(t *testing.T) {
	full := api.Wide{Hi: most, Lo: most}
	for _, r := range []struct{ a, b, quotient, rest api.Wide }{
		{zero, api.Wide{Lo: 1}, zero, zero},
		{zero, full, zero, zero},
		{api.Wide{Hi: 1}, api.Wide{Lo: 10}, api.Wide{Lo: 1844674407370955161}, api.Wide{Lo: 6}},
		{full, api.Wide{Lo: 1}, full, zero},
		{full, api.Wide{Lo: most}, api.Wide{Hi: 1, Lo: 1}, zero},
		{full, api.Wide{Hi: 1}, api.Wide{Lo: most}, api.Wide{Lo: most}},
		{full, api.Wide{Hi: 1, Lo: 1}, api.Wide{Lo: most}, zero},
		{full, full, api.Wide{Lo: 1}, zero},
		{api.Wide{Hi: most, Lo: most - 1}, full, zero, api.Wide{Hi: most, Lo: most - 1}},
		{api.Wide{Hi: 9, Lo: 1}, api.Wide{Hi: 4}, api.Wide{Lo: 2}, api.Wide{Hi: 1, Lo: 1}},
		{api.Wide{Hi: 8}, api.Wide{Hi: 4, Lo: 1}, api.Wide{Lo: 1}, api.Wide{Hi: 3, Lo: most}},
		{api.Wide{Lo: 3}, api.Wide{Hi: 4}, zero, api.Wide{Lo: 3}},
	} {
		if quotient, rest, errno := Div(r.a, r.b); quotient != r.quotient || rest != r.rest || errno != api.OK {
			t.Errorf("Div(%v, %v) = %v, %v, %d; want %v, %v", r.a, r.b, quotient, rest, errno, r.quotient, r.rest)
		}
	}
}

func TestDivByZero(t *testing.T) {
	for _, a := range edges() {
		checkDiv(t, a, zero)
	}
}

func TestEdgesAreExact(t *testing.T) {
	for _, a := range edges() {
		for _, b := range edges() {
			checkTimes(t, a, b)
			checkDiv(t, a, b)
		}
	}
}

func TestMixedAreExact(t *testing.T) {
	left, right := mixed(7, 50000), mixed(8, 50000)
	for i := range left {
		checkTimes(t, left[i], right[i])
		checkDiv(t, left[i], right[i])
	}
}

// Multiples of a divisor, and their neighbours, are where a quotient that is 1
// too great or too small shows.
func TestDivNearMultiples(t *testing.T) {
	left, right := mixed(9, 20000), mixed(10, 20000)
	for i := range left {
		product := new(big.Int).Mul(toBig(left[i]), toBig(right[i]))
		for _, step := range []int64{-1, 0, 1} {
			near := new(big.Int).Add(product, big.NewInt(step))
			if a, fits := fromBig(near); fits && near.Sign() >= 0 {
				checkDiv(t, a, right[i])
			}
		}
	}
}
