package crc

import (
	"hash/crc32"
	"math/rand/v2"
	"strings"
	"testing"

	"heartwood/api"
)

const most = 20000 // bytes of a text

// slowOf is the algorithm of the document, bit by bit.
func slowOf(s string) int {
	register := 1<<32 - 1
	for _, b := range []byte(s) {
		register ^= int(b)
		for range 8 {
			out := register % 2
			register /= 2
			if out == 1 {
				register ^= 3988292384
			}
		}
	}
	return 1<<32 - 1 - register
}

func checkSum(t *testing.T, s string, want int) {
	t.Helper()
	if got, errno := Of(s); got != want || errno != api.OK {
		t.Errorf("Of %d bytes, %.40q: got %d, %d; want %d", len(s), s, got, errno, want)
	}
}

// checkSame compares with both other algorithms.
func checkSame(t *testing.T, s string) {
	t.Helper()
	checkSum(t, s, slowOf(s))
	checkSum(t, s, int(crc32.ChecksumIEEE([]byte(s))))
}

// randomText returns a text of n bytes of any kind.
func randomText(source *rand.Rand, n int) string {
	text := make([]byte, n)
	for i := range text {
		text[i] = byte(source.IntN(256))
	}
	return string(text)
}

func TestKnownSums(t *testing.T) {
	for _, r := range []struct {
		text string
		want int
	}{
		{"", 0},
		{"a", 3904355907},
		{"abc", 891568578},
		{"123456789", 3421780262},
		{"\x00", 3523407757},
		{"\x00\x00\x00\x00", 558161692},
		{"\xff", 4278190080},
		{"\xff\xff\xff\xff", 1<<32 - 1},
		{"The quick brown fox jumps over the lazy dog", 1095738169},
	} {
		checkSum(t, r.text, r.want)
	}
}

// One byte reaches each entry of the table, two of them each pair of nibbles.
func TestShortTexts(t *testing.T) {
	for a := range 256 {
		checkSame(t, string([]byte{byte(a)}))
		for b := range 256 {
			checkSame(t, string([]byte{byte(a), byte(b)}))
		}
	}
}

func TestRandomTexts(t *testing.T) {
	source := rand.New(rand.NewPCG(11, 1))
	for n := range 400 {
		checkSame(t, randomText(source, n))
	}
	for range 20 {
		checkSame(t, randomText(source, source.IntN(most+1)))
	}
}

// A text is a row of bytes: whether they are runes does not matter.
func TestBytesNotRunes(t *testing.T) {
	for _, s := range []string{"\u00e9", "\u20ac", "\U0001f600", "\xc3", "\xe2\x82", "\x80\x80", "a\u00e9\x80b", "\xef\xbf\xbd"} {
		checkSame(t, s)
	}
}

func TestLength(t *testing.T) {
	source := rand.New(rand.NewPCG(12, 1))
	for _, n := range []int{most - 1, most} {
		checkSame(t, randomText(source, n))
		checkSame(t, strings.Repeat("\x00", n))
		checkSame(t, strings.Repeat("\xff", n))
	}
	for _, n := range []int{most + 1, most + 2, 2 * most, 1 << 16, 1<<16 + 5, 1 << 20} {
		for _, s := range []string{randomText(source, n), strings.Repeat("a", n)} {
			if got, errno := Of(s); got != 0 || errno != api.ErrLarge {
				t.Errorf("Of %d bytes: got %d, %d", n, got, errno)
			}
		}
	}
}
