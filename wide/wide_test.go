package wide

import (
	"math"
	"math/big"
	"testing"

	"heartwood/api"
)

const most = math.MaxUint64

var zero = api.Wide{}

// samples returns all pairs of words at the edges, where carries and borrows
// begin and end.
func samples() []api.Wide {
	words := []uint64{0, 1, 2, 3, 10, 1<<32 - 1, 1 << 32, 1<<63 - 1, 1 << 63, 1<<63 + 1, most - 1, most, 0x0123456789abcdef}
	var all []api.Wide
	for _, hi := range words {
		for _, lo := range words {
			all = append(all, api.Wide{Hi: hi, Lo: lo})
		}
	}
	return all
}

func toBig(a api.Wide) *big.Int {
	n := new(big.Int).SetUint64(a.Hi)
	n.Lsh(n, 64)
	return n.Or(n, new(big.Int).SetUint64(a.Lo))
}

// fromBig is false if n is not from 0 to 2^128 - 1.
func fromBig(n *big.Int) (api.Wide, bool) {
	if n.Sign() < 0 || n.BitLen() > 128 {
		return zero, false
	}
	low := new(big.Int).And(n, new(big.Int).SetUint64(most))
	return api.Wide{Hi: new(big.Int).Rsh(n, 64).Uint64(), Lo: low.Uint64()}, true
}

// check compares a result with the exact one; outside is the error that is due
// if the exact one does not fit.
func check(t *testing.T, name string, got api.Wide, errno api.Errno, exact *big.Int, outside api.Errno) {
	t.Helper()
	want, fits := fromBig(exact)
	wantErrno := api.OK
	if !fits {
		wantErrno = outside
	}
	if got != want || errno != wantErrno {
		t.Errorf("%s: got %v, %d; want %v, %d", name, got, errno, want, wantErrno)
	}
}

type row struct {
	a, b, want api.Wide
	errno      api.Errno
}

func TestAddRows(t *testing.T) {
	for _, r := range []row{
		{zero, zero, zero, api.OK},
		{api.Wide{Lo: 2}, api.Wide{Lo: 3}, api.Wide{Lo: 5}, api.OK},
		{api.Wide{Lo: most}, api.Wide{Lo: 1}, api.Wide{Hi: 1}, api.OK},
		{api.Wide{Lo: 1}, api.Wide{Lo: most}, api.Wide{Hi: 1}, api.OK},
		{api.Wide{Hi: most, Lo: most - 1}, api.Wide{Lo: 1}, api.Wide{Hi: most, Lo: most}, api.OK},
		{api.Wide{Hi: most, Lo: most}, zero, api.Wide{Hi: most, Lo: most}, api.OK},
		{api.Wide{Hi: most, Lo: most}, api.Wide{Lo: 1}, zero, api.ErrLarge},
		{api.Wide{Hi: 1 << 63}, api.Wide{Hi: 1 << 63, Lo: 7}, zero, api.ErrLarge},
		{api.Wide{Hi: most, Lo: most}, api.Wide{Hi: most, Lo: most}, zero, api.ErrLarge},
	} {
		if got, errno := Add(r.a, r.b); got != r.want || errno != r.errno {
			t.Errorf("Add(%v, %v) = %v, %d; want %v, %d", r.a, r.b, got, errno, r.want, r.errno)
		}
	}
}

func TestSubRows(t *testing.T) {
	for _, r := range []row{
		{zero, zero, zero, api.OK},
		{api.Wide{Lo: 5}, api.Wide{Lo: 3}, api.Wide{Lo: 2}, api.OK},
		{api.Wide{Hi: 1}, api.Wide{Lo: 1}, api.Wide{Lo: most}, api.OK},
		{api.Wide{Hi: most, Lo: most}, api.Wide{Hi: most, Lo: most}, zero, api.OK},
		{zero, api.Wide{Lo: 1}, zero, api.ErrSign},
		{api.Wide{Lo: most}, api.Wide{Hi: 1}, zero, api.ErrSign},
		{api.Wide{Hi: 4, Lo: 4}, api.Wide{Hi: 4, Lo: 5}, zero, api.ErrSign},
	} {
		if got, errno := Sub(r.a, r.b); got != r.want || errno != r.errno {
			t.Errorf("Sub(%v, %v) = %v, %d; want %v, %d", r.a, r.b, got, errno, r.want, r.errno)
		}
	}
}

func TestPairsAreExact(t *testing.T) {
	for _, a := range samples() {
		for _, b := range samples() {
			x, y := toBig(a), toBig(b)
			sum, errno := Add(a, b)
			check(t, "Add", sum, errno, new(big.Int).Add(x, y), api.ErrLarge)
			rest, errno := Sub(a, b)
			check(t, "Sub", rest, errno, new(big.Int).Sub(x, y), api.ErrSign)
			if Cmp(a, b) != x.Cmp(y) {
				t.Errorf("Cmp(%v, %v) = %d", a, b, Cmp(a, b))
			}
		}
	}
}

func TestCmpRows(t *testing.T) {
	for _, r := range []struct {
		a, b api.Wide
		want int
	}{
		{zero, zero, 0},
		{api.Wide{Hi: 7, Lo: 9}, api.Wide{Hi: 7, Lo: 9}, 0},
		{api.Wide{Hi: 1}, api.Wide{Lo: most}, 1},
		{api.Wide{Lo: most}, api.Wide{Hi: 1}, -1},
		{api.Wide{Hi: 3, Lo: 1}, api.Wide{Hi: 3, Lo: 2}, -1},
		{api.Wide{Hi: 1 << 63}, api.Wide{Hi: 1}, 1},
		{api.Wide{Lo: 1 << 63}, api.Wide{Lo: 1}, 1},
	} {
		if got := Cmp(r.a, r.b); got != r.want {
			t.Errorf("Cmp(%v, %v) = %d; want %d", r.a, r.b, got, r.want)
		}
	}
}

func TestLen(t *testing.T) {
	for _, r := range []struct {
		a    api.Wide
		want int
	}{
		{zero, 0},
		{api.Wide{Lo: 1}, 1},
		{api.Wide{Lo: 2}, 2},
		{api.Wide{Lo: 3}, 2},
		{api.Wide{Lo: 4}, 3},
		{api.Wide{Lo: most}, 64},
		{api.Wide{Hi: 1}, 65},
		{api.Wide{Hi: 1 << 63}, 128},
		{api.Wide{Hi: most, Lo: most}, 128},
	} {
		if got := Len(r.a); got != r.want {
			t.Errorf("Len(%v) = %d; want %d", r.a, got, r.want)
		}
	}
	for _, a := range samples() {
		if got, want := Len(a), toBig(a).BitLen(); got != want {
			t.Errorf("Len(%v) = %d; want %d", a, got, want)
		}
	}
}

type shift struct {
	a     api.Wide
	n     int
	want  api.Wide
	errno api.Errno
}

func TestShlRows(t *testing.T) {
	for _, r := range []shift{
		{zero, 127, zero, api.OK},
		{api.Wide{Hi: most, Lo: most}, 0, api.Wide{Hi: most, Lo: most}, api.OK},
		{api.Wide{Lo: 1}, 127, api.Wide{Hi: 1 << 63}, api.OK},
		{api.Wide{Lo: 1 << 63}, 1, api.Wide{Hi: 1}, api.OK},
		{api.Wide{Lo: most}, 64, api.Wide{Hi: most}, api.OK},
		{api.Wide{Lo: most}, 65, zero, api.ErrLarge},
		{api.Wide{Lo: 2}, 127, zero, api.ErrLarge},
		{api.Wide{Hi: 1 << 63}, 1, zero, api.ErrLarge},
		{api.Wide{Hi: 1}, 64, zero, api.ErrLarge},
	} {
		if got, errno := Shl(r.a, r.n); got != r.want || errno != r.errno {
			t.Errorf("Shl(%v, %d) = %v, %d; want %v, %d", r.a, r.n, got, errno, r.want, r.errno)
		}
	}
}

func TestShrRows(t *testing.T) {
	for _, r := range []shift{
		{zero, 127, zero, api.OK},
		{api.Wide{Hi: most, Lo: most}, 0, api.Wide{Hi: most, Lo: most}, api.OK},
		{api.Wide{Lo: 7}, 1, api.Wide{Lo: 3}, api.OK},
		{api.Wide{Lo: 7}, 3, zero, api.OK},
		{api.Wide{Hi: 1}, 1, api.Wide{Lo: 1 << 63}, api.OK},
		{api.Wide{Hi: 9, Lo: most}, 64, api.Wide{Lo: 9}, api.OK},
		{api.Wide{Hi: most}, 127, api.Wide{Lo: 1}, api.OK},
	} {
		if got, errno := Shr(r.a, r.n); got != r.want || errno != r.errno {
			t.Errorf("Shr(%v, %d) = %v, %d; want %v, %d", r.a, r.n, got, errno, r.want, r.errno)
		}
	}
}

func TestShiftsAreExact(t *testing.T) {
	for _, a := range samples() {
		for n := 0; n <= 127; n++ {
			up, errno := Shl(a, n)
			check(t, "Shl", up, errno, new(big.Int).Lsh(toBig(a), uint(n)), api.ErrLarge)
			down, errno := Shr(a, n)
			check(t, "Shr", down, errno, new(big.Int).Rsh(toBig(a), uint(n)), api.ErrLarge)
		}
	}
}

func TestShiftsOutOfBounds(t *testing.T) {
	for _, n := range []int{math.MinInt, -64, -1, 128, 129, 192, 256, math.MaxInt} {
		// The greatest value would be too large after any shift up, but ErrArg
		// comes first.
		for _, a := range []api.Wide{zero, {Lo: 1}, {Hi: most, Lo: most}} {
			if got, errno := Shl(a, n); got != zero || errno != api.ErrArg {
				t.Errorf("Shl(%v, %d) = %v, %d", a, n, got, errno)
			}
			if got, errno := Shr(a, n); got != zero || errno != api.ErrArg {
				t.Errorf("Shr(%v, %d) = %v, %d", a, n, got, errno)
			}
		}
	}
}
