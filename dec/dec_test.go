package dec

import (
	"math"
	"math/big"
	"math/rand/v2"
	"strings"
	"testing"

	"heartwood/api"
)

const most = math.MaxUint64

var (
	zero = api.Wide{}
	full = api.Wide{Hi: most, Lo: most}
)

// limit is 2^128, the least number that is too large.
const limit = "340282366920938463463374607431768211456"

type row struct {
	a    api.Wide
	text string
}

func rows() []row {
	return []row{
		{zero, "0"},
		{api.Wide{Lo: 1}, "1"},
		{api.Wide{Lo: 9}, "9"},
		{api.Wide{Lo: 10}, "10"},
		{api.Wide{Lo: 100}, "100"},
		{api.Wide{Lo: 1002003}, "1002003"},
		{api.Wide{Lo: 9999999999999999999}, "9999999999999999999"},
		{api.Wide{Lo: 10000000000000000000}, "10000000000000000000"},
		{api.Wide{Lo: most}, "18446744073709551615"},
		{api.Wide{Hi: 1}, "18446744073709551616"},
		{api.Wide{Hi: 1, Lo: 1}, "18446744073709551617"},
		{api.Wide{Hi: 5421010862427522170, Lo: 687399551400673280}, "1" + strings.Repeat("0", 38)},
		{api.Wide{Hi: 5421010862427522170, Lo: 687399551400673279}, strings.Repeat("9", 38)},
		{api.Wide{Hi: 1 << 63}, "170141183460469231731687303715884105728"},
		{api.Wide{Hi: most, Lo: most - 1}, "340282366920938463463374607431768211454"},
		{full, "340282366920938463463374607431768211455"},
	}
}

func TestTextRows(t *testing.T) {
	for _, r := range rows() {
		if got := Text(r.a); got != r.text {
			t.Errorf("Text(%v) = %q; want %q", r.a, got, r.text)
		}
	}
}

func TestParseRows(t *testing.T) {
	for _, r := range rows() {
		if got, errno := Parse(r.text); got != r.a || errno != api.OK {
			t.Errorf("Parse(%q) = %v, %d; want %v", r.text, got, errno, r.a)
		}
	}
}

func checkError(t *testing.T, s string, want api.Errno) {
	t.Helper()
	if got, errno := Parse(s); got != zero || errno != want {
		t.Errorf("Parse(%q) = %v, %d; want %d", s, got, errno, want)
	}
}

func TestParseForm(t *testing.T) {
	for _, s := range []string{
		"", "00", "01", "000", "007", "+1", "-1", "-0", "+0", " 1", "1 ", "1\n", "\t1", "1_000", "1,000",
		"0x10", "1e3", "1.0", "a", "x1", "1x", "1x2", "\x00", "1\x00", "1\xff", "\xff", "/", ":", "1/", "1:",
		"٣", "1٣", "３",
		// Too large as well, but ErrForm comes first.
		limit + "x", "x" + limit, "0" + limit, limit + " ", limit + "/", limit + ":",
		"0" + strings.Repeat("9", 100), strings.Repeat("9", 100) + "x", strings.Repeat("9", 50) + "x" + strings.Repeat("9", 50),
		// An unnecessary zero, of a number that is not too large.
		"0340282366920938463463374607431768211455", strings.Repeat("0", 100), strings.Repeat("0", 50) + "1",
	} {
		checkError(t, s, api.ErrForm)
	}
}

// Only the ten digits are digits.
func TestParseBytes(t *testing.T) {
	for c := range 256 {
		s := string([]byte{byte(c)})
		if c >= '0' && c <= '9' {
			if got, errno := Parse("1" + s); got != (api.Wide{Lo: uint64(10 + c - '0')}) || errno != api.OK {
				t.Errorf("Parse(%q) = %v, %d", "1"+s, got, errno)
			}
			continue
		}
		for _, text := range []string{s, s + "1", "1" + s, "1" + s + "1"} {
			checkError(t, text, api.ErrForm)
		}
	}
}

func TestParseLarge(t *testing.T) {
	for _, s := range []string{
		limit,
		// The last digit alone goes beyond the limit, or one of those before it.
		"340282366920938463463374607431768211457",
		"340282366920938463463374607431768211459",
		"340282366920938463463374607431768211460",
		"340282366920938463463374607431768212455",
		"400000000000000000000000000000000000000",
		strings.Repeat("9", 39), "1" + strings.Repeat("0", 39), strings.Repeat("9", 40), strings.Repeat("1", 1000),
		// The low 128 bits of these are small.
		"680564733841876926926749214863536422912", limit + "0", "3402823669209384634633746074317682114560",
	} {
		checkError(t, s, api.ErrLarge)
	}
}

// mixed returns the same values on each run, of all bit lengths alike.
func mixed(seed uint64, count int) []*big.Int {
	source := rand.New(rand.NewPCG(seed, 1))
	all := make([]*big.Int, count)
	for i := range all {
		value := toBig(api.Wide{Hi: source.Uint64(), Lo: source.Uint64()})
		all[i] = value.Rsh(value, uint(source.IntN(129)))
	}
	return all
}

func toBig(a api.Wide) *big.Int {
	n := new(big.Int).SetUint64(a.Hi)
	n.Lsh(n, 64)
	return n.Or(n, new(big.Int).SetUint64(a.Lo))
}

func fromBig(n *big.Int) api.Wide {
	low := new(big.Int).And(n, new(big.Int).SetUint64(most))
	return api.Wide{Hi: new(big.Int).Rsh(n, 64).Uint64(), Lo: low.Uint64()}
}

func checkBoth(t *testing.T, n *big.Int) {
	t.Helper()
	a := fromBig(n)
	if got := Text(a); got != n.String() {
		t.Errorf("Text(%v) = %q; want %q", a, got, n)
	}
	if got, errno := Parse(n.String()); got != a || errno != api.OK {
		t.Errorf("Parse(%q) = %v, %d; want %v", n, got, errno, a)
	}
}

func TestTextAndParseAreExact(t *testing.T) {
	for n := range int64(2000) {
		checkBoth(t, big.NewInt(n))
	}
	for _, n := range mixed(31, 20000) {
		checkBoth(t, n)
	}
}

// Each power of ten is where the text gets longer.
func TestTextAndParseNearPowersOfTen(t *testing.T) {
	for n := range int64(39) {
		power := new(big.Int).Exp(big.NewInt(10), big.NewInt(n), nil)
		for _, step := range []int64{-1, 0, 1} {
			checkBoth(t, new(big.Int).Add(power, big.NewInt(step)))
		}
	}
}

func TestParseBeyondTheLimit(t *testing.T) {
	beyond := new(big.Int).Lsh(big.NewInt(1), 128)
	for _, n := range mixed(32, 2000) {
		checkError(t, new(big.Int).Add(beyond, n).String(), api.ErrLarge)
	}
}
