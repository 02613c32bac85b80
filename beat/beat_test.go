package beat

import (
	"encoding/binary"
	"hash/crc32"
	"math"
	"math/rand/v2"
	"strings"
	"testing"

	"heartwood/api"
)

const last = 1<<31 - 1 // the greatest number of a heartbeat

// validIds are identifiers of each length, with the first and the last letter.
func validIds() []string {
	return []string{"a", "z", "m", "az", "abc", "zzzz", "heart", "woodwo", "abcdefg", "zyxwvuts", "aaaaaaaa"}
}

// invalidIds are strings that are not identifiers.
func invalidIds() []string {
	return []string{
		"", "abcdefghi", "zzzzzzzzz", strings.Repeat("a", 256), strings.Repeat("a", 258), strings.Repeat("a", 100000),
		"A", "Z", "`", "{", "0", "9", " ", "_", "\x00", "\xff", "a b", "ab1", "aB", "Ab", "abc\n", "\x00a", "a\x00",
		"abcdefg{", "`bcdefgh", "abcdefgH", "\u00e9", "a\u00e9", "\xe1", "a\x80", "ABCDEFGHI",
	}
}

// badIncs and badSeqs are numbers out of their ranges.
func badIncs() []int {
	return []int{math.MinInt, -1 << 32, -1 << 31, -2, -1, last + 1, last + 2, 1<<32 - 1, 1 << 32, 1<<32 + 5, 1 << 62, math.MaxInt}
}

func badSeqs() []int {
	return append(badIncs(), 0)
}

// frame lays the parts of an encoding side by side, valid or not, with the
// right checksum.
func frame(first, length byte, id string, inc, seq uint32) string {
	text := append([]byte{first, length}, id...)
	text = binary.BigEndian.AppendUint32(text, inc)
	text = binary.BigEndian.AppendUint32(text, seq)
	return string(binary.BigEndian.AppendUint32(text, crc32.ChecksumIEEE(text)))
}

func frameOf(b api.Beat) string {
	return frame('H', byte(len(b.Id)), b.Id, uint32(b.Inc), uint32(b.Seq))
}

// withoutSum makes the checksum of an encoding wrong.
func withoutSum(s string) string {
	return s[:len(s)-1] + string([]byte{s[len(s)-1] ^ 1})
}

func beats() []api.Beat {
	all := []api.Beat{}
	for _, id := range validIds() {
		for _, inc := range []int{0, 1, 255, 256, 65536, 1 << 24, 0x01020304, last - 1, last} {
			for _, seq := range []int{1, 2, 255, 256, 65536, 1 << 24, 0x7e6d5c4b, last - 1, last} {
				all = append(all, api.Beat{Id: id, Inc: inc, Seq: seq})
			}
		}
	}
	return all
}

func checkDecode(t *testing.T, name, s string, want api.Beat, wantErrno api.Errno) {
	t.Helper()
	if got, errno := Decode(s); got != want || errno != wantErrno {
		t.Errorf("Decode of %s, %.40q: got %v, %d; want %v, %d", name, s, got, errno, want, wantErrno)
	}
}

func checkFails(t *testing.T, name, s string, want api.Errno) {
	t.Helper()
	checkDecode(t, name, s, api.Beat{}, want)
}

// checkInvalid checks that Check and Encode return the same error.
func checkInvalid(t *testing.T, b api.Beat, want api.Errno) {
	t.Helper()
	if errno := Check(b); errno != want {
		t.Errorf("Check %.60v: %d; want %d", b, errno, want)
	}
	if got, errno := Encode(b); got != "" || errno != want {
		t.Errorf("Encode %.60v: %q, %d; want %d", b, got, errno, want)
	}
}

func TestId(t *testing.T) {
	for _, id := range validIds() {
		if !Id(id) {
			t.Errorf("Id %q: false", id)
		}
	}
	for _, id := range invalidIds() {
		if Id(id) {
			t.Errorf("Id %.40q: true", id)
		}
	}
	for n := range 300 {
		if got := Id(strings.Repeat("k", n)); got != (n >= 1 && n <= 8) {
			t.Errorf("Id of %d letters: %t", n, got)
		}
	}
}

// Each byte at each place is a letter or makes the identifier invalid.
func TestIdBytes(t *testing.T) {
	for c := range 256 {
		want := strings.Contains("abcdefghijklmnopqrstuvwxyz", string([]byte{byte(c)}))
		for n := 1; n <= 8; n++ {
			for i := range n {
				id := []byte(strings.Repeat("q", n))
				id[i] = byte(c)
				if got := Id(string(id)); got != want {
					t.Errorf("Id %q: %t", id, got)
				}
			}
		}
	}
}

func TestCheck(t *testing.T) {
	for _, b := range beats() {
		if errno := Check(b); errno != api.OK {
			t.Errorf("Check %v: %d", b, errno)
		}
	}
	for _, id := range invalidIds() {
		checkInvalid(t, api.Beat{Id: id, Seq: 1}, api.ErrForm)
		checkInvalid(t, api.Beat{Id: id, Inc: last, Seq: last}, api.ErrForm)
		// The identifier comes before the numbers.
		checkInvalid(t, api.Beat{Id: id, Inc: -1, Seq: 0}, api.ErrForm)
		checkInvalid(t, api.Beat{Id: id, Inc: last + 1, Seq: last + 1}, api.ErrForm)
	}
	for _, inc := range badIncs() {
		for _, seq := range append(badSeqs(), 1, 2, last) {
			checkInvalid(t, api.Beat{Id: "ab", Inc: inc, Seq: seq}, api.ErrArg)
		}
	}
	for _, seq := range badSeqs() {
		for _, inc := range []int{0, 1, last} {
			checkInvalid(t, api.Beat{Id: "ab", Inc: inc, Seq: seq}, api.ErrArg)
		}
	}
	checkInvalid(t, api.Beat{}, api.ErrForm)
}

func TestEncode(t *testing.T) {
	for _, r := range []struct {
		b    api.Beat
		want string // without the checksum
	}{
		{api.Beat{Id: "ab", Inc: 258, Seq: 3}, "H\x02ab\x00\x00\x01\x02\x00\x00\x00\x03"},
		{api.Beat{Id: "z", Inc: 0, Seq: 1}, "H\x01z\x00\x00\x00\x00\x00\x00\x00\x01"},
		{api.Beat{Id: "abcdefgh", Inc: last, Seq: 0x01020304}, "H\x08abcdefgh\x7f\xff\xff\xff\x01\x02\x03\x04"},
	} {
		got, errno := Encode(r.b)
		sum := binary.BigEndian.AppendUint32(nil, crc32.ChecksumIEEE([]byte(r.want)))
		if got != r.want+string(sum) || errno != api.OK {
			t.Errorf("Encode %v: %q, %d", r.b, got, errno)
		}
	}
	// The bytes of one whole encoding, with a checksum written out.
	got, errno := Encode(api.Beat{Id: "ab", Inc: 258, Seq: 3})
	if want := "H\x02ab\x00\x00\x01\x02\x00\x00\x00\x03\x71\xf3\xa9\xb3"; got != want || errno != api.OK {
		t.Errorf("Encode: %q, %d", got, errno)
	}
}

func TestEncodeDecode(t *testing.T) {
	for _, b := range beats() {
		got, errno := Encode(b)
		if got != frameOf(b) || len(got) != 14+len(b.Id) || errno != api.OK {
			t.Errorf("Encode %v: %q, %d", b, got, errno)
		}
		checkDecode(t, "an encoding", got, b, api.OK)
	}
}

func TestDecodeFirstBytes(t *testing.T) {
	whole := frameOf(api.Beat{Id: "ab", Inc: 1, Seq: 2})
	checkFails(t, "nothing", "", api.ErrShort)
	for c := range 256 {
		first := string([]byte{byte(c)})
		checkFails(t, "one byte", first, api.ErrShort)
		if c != 'H' {
			for _, rest := range []string{"\x02", "\x00", "\x09", whole[1:], whole[1:5], whole[1:] + "x"} {
				checkFails(t, "another first byte", first+rest, api.ErrForm)
			}
			checkFails(t, "another first byte with its checksum", frame(byte(c), 2, "ab", 1, 2), api.ErrForm)
		}
		if c < 1 || c > 8 {
			for _, rest := range []string{"", "a", whole[2:], strings.Repeat("a", 12+c), strings.Repeat("a", 13+c)} {
				checkFails(t, "a wrong length", "H"+first+rest, api.ErrForm)
			}
			checkFails(t, "a wrong length with its checksum", frame('H', byte(c), strings.Repeat("a", c), 1, 2), api.ErrForm)
		} else {
			checkFails(t, "the first two bytes", "H"+first, api.ErrShort)
		}
	}
}

// Bytes that are missing or too many are found before anything that follows.
func TestDecodeLength(t *testing.T) {
	for _, b := range beats() {
		whole := frameOf(b)
		for n := range whole {
			checkFails(t, "a part", whole[:n], api.ErrShort)
		}
		for _, more := range []string{"\x00", "x", whole, strings.Repeat("x", 256), strings.Repeat("\x00", 30000)} {
			checkFails(t, "an encoding and more", whole+more, api.ErrForm)
		}
	}
	for length := 1; length <= 8; length++ {
		for n := range 40 {
			s := "H" + string([]byte{byte(length)}) + strings.Repeat("!", n)
			want := api.ErrSum
			if n+2 < 14+length {
				want = api.ErrShort
			} else if n+2 > 14+length {
				want = api.ErrForm
			}
			checkFails(t, "no heartbeat", s, want)
		}
		// The length byte says another length than that of the identifier.
		if length != 3 {
			want := api.ErrForm
			if length > 3 {
				want = api.ErrShort
			}
			checkFails(t, "another length", frame('H', byte(length), "abc", 1, 2), want)
		}
	}
}

// Each change of the bytes after the length breaks the checksum.
func TestDecodeSum(t *testing.T) {
	for _, b := range beats() {
		whole := frameOf(b)
		for i := 2; i < len(whole); i++ {
			for bit := range 8 {
				changed := []byte(whole)
				changed[i] ^= 1 << bit
				checkFails(t, "a changed encoding", string(changed), api.ErrSum)
			}
		}
		end := len(whole) - 4
		checkFails(t, "no checksum", whole[:end]+"\x00\x00\x00\x00", api.ErrSum)
		reversed := []byte{whole[end+3], whole[end+2], whole[end+1], whole[end]}
		checkFails(t, "a little-endian checksum", whole[:end]+string(reversed), api.ErrSum)
	}
}

// With the right checksum, ErrForm for what Check does not take; otherwise
// ErrSum, which comes first.
func TestDecodeInvalid(t *testing.T) {
	check := func(name, s string) {
		t.Helper()
		checkFails(t, name, s, api.ErrForm)
		checkFails(t, name+" and its sum", withoutSum(s), api.ErrSum)
	}
	for _, id := range invalidIds() {
		if len(id) >= 1 && len(id) <= 8 {
			check("an identifier", frame('H', byte(len(id)), id, 1, 2))
			check("an identifier and numbers", frame('H', byte(len(id)), id, 1<<31, 0))
		}
	}
	for _, bad := range []uint32{1 << 31, 1<<31 + 1, 1<<32 - 2, 1<<32 - 1} {
		check("Inc", frame('H', 2, "ab", bad, 1))
		check("Seq", frame('H', 2, "ab", 0, bad))
		check("both", frame('H', 2, "ab", bad, bad))
	}
	check("Seq 0", frame('H', 2, "ab", 0, 0))
	check("Seq 0", frame('H', 8, "abcdefgh", last, 0))
}

// What Decode takes, Encode gives back byte for byte.
func TestDecodeRandom(t *testing.T) {
	source := rand.New(rand.NewPCG(13, 1))
	taken := 0
	for range 20000 {
		id := make([]byte, 1+source.IntN(8))
		for i := range id {
			id[i] = byte('a' + source.IntN(26))
		}
		if source.IntN(4) == 0 {
			id[source.IntN(len(id))] = byte(source.IntN(256))
		}
		s := frame('H', byte(len(id)), string(id), source.Uint32(), source.Uint32()>>source.IntN(33))
		b, errno := Decode(s)
		if errno != api.OK && errno != api.ErrForm {
			t.Errorf("Decode %q: %d", s, errno)
		}
		if errno == api.OK {
			taken++
			if again, errno := Encode(b); again != s || errno != api.OK {
				t.Errorf("Encode %v: %q, %d; want %q", b, again, errno, s)
			}
		}
	}
	if taken < 1000 {
		t.Errorf("only %d texts were encodings", taken)
	}
}
