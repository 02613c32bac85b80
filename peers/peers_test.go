package peers

import (
	"maps"
	"math"
	"math/rand/v2"
	"slices"
	"strings"
	"testing"

	"heartwood/api"
)

const (
	latest   = 1 << 30   // time
	greatest = 1 << 24   // value
	lastNum  = 1<<31 - 1 // incarnation, or sequence number
	mostDrop = 1 << 30   // rejected messages that are counted
)

// badTimes are numbers that are not times; badFirsts are not values, badSizes
// are not capacities.
func badTimes() []int {
	return []int{math.MinInt, -latest, -2, -1, latest + 1, latest + 2, 1 << 31, 1<<32 + 5, math.MaxInt}
}

func badFirsts() []int {
	return []int{math.MinInt, -greatest, -2, -1, greatest + 1, greatest + 2, 1 << 25, 1<<32 + 5, math.MaxInt}
}

func badSizes() []int {
	return []int{math.MinInt, -64, -1, 0, 65, 66, 1 << 24, 1<<32 + 1, math.MaxInt}
}

// badIds are strings that are not identifiers.
func badIds() []string {
	return []string{
		"", "A", "Z", "`", "{", "0", " ", "\x00", "\xff", "a b", "aB", "ab1", "a\x00", "\u00e9", "abcdefg{",
		"abcdefghi", strings.Repeat("a", 256), strings.Repeat("a", 257), strings.Repeat("z", 100000),
	}
}

// faulty is something with an error.
type faulty[T any] struct {
	it   T
	want api.Errno
}

// badGates and badWindows have an error each, for all reasons that there are.
func badGates() []api.Gate {
	return []api.Gate{
		{Inc: 1}, {Inc: -1, Seq: 1}, {Inc: lastNum + 1, Seq: 1}, {Seq: -1}, {Seq: lastNum + 1},
		{Drops: -1}, {Inc: 1, Seq: 1, Drops: mostDrop + 1}, {Inc: math.MinInt, Seq: math.MaxInt, Drops: math.MinInt},
	}
}

func badWindows() []faulty[api.Window] {
	return []faulty[api.Window]{
		{api.Window{}, api.ErrArg},
		{api.Window{Cap: -1}, api.ErrArg},
		{api.Window{Cap: 65}, api.ErrArg},
		{api.Window{Cap: 65, Vals: ramp(66)}, api.ErrArg},
		{api.Window{Cap: 2, Vals: ramp(3)}, api.ErrLarge},
		{api.Window{Cap: 2, Vals: []int{-1, 2, 3}}, api.ErrLarge},
		{api.Window{Cap: 64, Vals: ramp(65)}, api.ErrLarge},
		{api.Window{Cap: 2, Vals: []int{1, -1}}, api.ErrArg},
		{api.Window{Cap: 3, Vals: []int{greatest + 1}}, api.ErrArg},
	}
}

// ramp returns the values 1 to count.
func ramp(count int) []int {
	l := make([]int, count)
	for i := range l {
		l[i] = i + 1
	}
	return l
}

// peer returns a valid peer with a window that is not full.
func peer(id string) api.Peer {
	return api.Peer{Id: id, Gate: api.Gate{Inc: 3, Seq: 5, Drops: 2}, Win: api.Window{Cap: 4, Vals: []int{8, 1, 6}}, Last: 100}
}

// table returns valid peers with these identifiers.
func table(ids ...string) []api.Peer {
	l := make([]api.Peer, len(ids))
	for i, id := range ids {
		l[i] = peer(id)
		l[i].Gate.Drops += i
		l[i].Win.Vals[2] += i
	}
	return l
}

// full returns a table of six peers, between which there is room.
func full() []api.Peer {
	return table("b", "bb", "d", "f", "fffffffe", "h")
}

// copyTable is an independent copy of l, windows included.
func copyTable(l []api.Peer) []api.Peer {
	c := slices.Clone(l)
	for i := range c {
		c[i].Win.Vals = slices.Clone(c[i].Win.Vals)
	}
	return c
}

func equalPeers(a, b api.Peer) bool {
	return a.Id == b.Id && a.Gate == b.Gate && a.Last == b.Last &&
		a.Win.Cap == b.Win.Cap && slices.Equal(a.Win.Vals, b.Win.Vals)
}

func equal(a, b []api.Peer) bool {
	return slices.EqualFunc(a, b, equalPeers)
}

// The first wrong result ends a test: the tests below make thousands of calls.
func checkCheck(t *testing.T, l []api.Peer, want api.Errno) {
	t.Helper()
	if errno := Check(l); errno != want {
		t.Fatalf("Check %.300v: %d; want %d", l, errno, want)
	}
}

func checkAdd(t *testing.T, l []api.Peer, id string, size, first, now int, want []api.Peer, wantErrno api.Errno) {
	t.Helper()
	got, errno := Add(l, id, size, first, now)
	if !equal(got, want) || errno != wantErrno {
		t.Fatalf("Add %.300v, %.20q, %d, %d, %d: got %.300v, %d; want %.300v, %d", l, id, size, first, now, got, errno, want, wantErrno)
	}
}

func checkDrop(t *testing.T, l []api.Peer, id string, want []api.Peer, wantErrno api.Errno) {
	t.Helper()
	got, errno := Drop(l, id)
	if !equal(got, want) || errno != wantErrno {
		t.Fatalf("Drop %.300v, %.20q: got %.300v, %d; want %.300v, %d", l, id, got, errno, want, wantErrno)
	}
}

func checkHear(t *testing.T, l []api.Peer, b api.Beat, now int, want []api.Peer, wantOk bool, wantErrno api.Errno) {
	t.Helper()
	got, ok, errno := Hear(l, b, now)
	if !equal(got, want) || ok != wantOk || errno != wantErrno {
		t.Fatalf("Hear %.300v, %.60v, %d: got %.300v, %t, %d; want %.300v, %t, %d", l, b, now, got, ok, errno, want, wantOk, wantErrno)
	}
}

func failsAdd(t *testing.T, l []api.Peer, id string, size, first, now int, want api.Errno) {
	t.Helper()
	checkAdd(t, l, id, size, first, now, nil, want)
}

func failsHear(t *testing.T, l []api.Peer, b api.Beat, now int, want api.Errno) {
	t.Helper()
	checkHear(t, l, b, now, nil, false, want)
}

// checkInvalid checks that all functions return the same error for l, also
// where their other arguments are invalid.
func checkInvalid(t *testing.T, l []api.Peer, want api.Errno) {
	t.Helper()
	checkCheck(t, l, want)
	for _, id := range []string{"c", "b", "", "B"} {
		failsAdd(t, l, id, 4, 7, 200, want)
		failsAdd(t, l, id, 0, -1, -1, want)
		checkDrop(t, l, id, nil, want)
		failsHear(t, l, api.Beat{Id: id, Inc: 3, Seq: 6}, 200, want)
		failsHear(t, l, api.Beat{Id: id, Inc: -1, Seq: 0}, -1, want)
	}
}

func TestCheck(t *testing.T) {
	for _, l := range [][]api.Peer{
		nil,
		{},
		table("a"),
		table("z"),
		table("zzzzzzzz"),
		table("a", "b"),
		table("a", "z"),
		// A shorter identifier comes first only if it begins the longer one.
		table("a", "aa", "ab", "b"),
		table("ab", "abc", "b", "ba"),
		table("aaaaaaaa", "aaaaaaab", "b"),
		table("ay", "b"),
		table("a", "b", "c", "d", "e", "f"),
		full(),
		full()[3:],
	} {
		checkCheck(t, l, api.OK)
	}
	for n := range 20 {
		want := api.OK
		if n > 6 {
			want = api.ErrLarge
		}
		checkCheck(t, table(strings.Split("abcdefghijklmnopqrstuvwxyz", "")[:n]...), want)
	}
}

// The bounds of each field are valid.
func TestCheckBounds(t *testing.T) {
	for _, last := range []int{0, 1, latest - 1, latest} {
		for _, g := range []api.Gate{{}, {Seq: 1}, {Drops: mostDrop}, {Inc: lastNum, Seq: lastNum, Drops: mostDrop}} {
			for _, w := range []api.Window{{Cap: 1}, {Cap: 64}, {Cap: 1, Vals: []int{0}}, {Cap: 64, Vals: slices.Repeat([]int{greatest}, 64)}} {
				l := table("b", "d", "f")
				l[1].Gate, l[1].Win, l[1].Last = g, w, last
				checkCheck(t, l, api.OK)
			}
		}
	}
}

// Too many peers are reported before all other errors.
func TestCheckLarge(t *testing.T) {
	seven := table("a", "b", "c", "d", "e", "f", "g")
	checkInvalid(t, seven, api.ErrLarge)
	for at := range seven {
		for _, bad := range []api.Peer{{}, {Id: "A"}, {Id: "a", Last: -1}, peer("a")} {
			l := copyTable(seven)
			l[at] = bad
			checkInvalid(t, l, api.ErrLarge)
		}
	}
	checkInvalid(t, make([]api.Peer, 7), api.ErrLarge)
	checkInvalid(t, make([]api.Peer, 1000), api.ErrLarge)
	checkCheck(t, seven[:6], api.OK)
	checkCheck(t, seven[1:], api.OK)
}

// broken are peers with one error and, if they have further ones, with those
// that come after it.
func broken(id string) []faulty[api.Peer] {
	all := []faulty[api.Peer]{{api.Peer{}, api.ErrForm}}
	add := func(want api.Errno, change func(p *api.Peer)) {
		p := peer(id)
		change(&p)
		all = append(all, faulty[api.Peer]{p, want})
	}
	for _, bad := range badIds() {
		add(api.ErrForm, func(p *api.Peer) { p.Id = bad })
		add(api.ErrForm, func(p *api.Peer) { p.Id, p.Gate.Drops, p.Win.Cap, p.Last = bad, -1, 2, -1 })
	}
	for _, g := range badGates() {
		add(api.ErrArg, func(p *api.Peer) { p.Gate = g })
		// The window would be ErrLarge.
		add(api.ErrArg, func(p *api.Peer) { p.Gate, p.Win.Cap, p.Last = g, 2, -1 })
	}
	for _, r := range badWindows() {
		add(r.want, func(p *api.Peer) { p.Win = r.it })
		add(r.want, func(p *api.Peer) { p.Win, p.Last = r.it, -1 })
	}
	for _, last := range badTimes() {
		add(api.ErrArg, func(p *api.Peer) { p.Last = last })
	}
	return all
}

// Each error of a peer is found at each place of the table.
func TestCheckPeers(t *testing.T) {
	for at, id := range []string{"b", "bb", "d", "f", "fffffffe", "h"} {
		for _, r := range broken(id) {
			l := full()
			l[at] = r.it
			checkInvalid(t, l, r.want)
			checkInvalid(t, l[:at+1], r.want)
			checkInvalid(t, l[at:], r.want)
		}
	}
}

func TestCheckOrder(t *testing.T) {
	for _, ids := range [][]string{
		{"b", "a"},
		{"a", "a"},
		{"b", "az"},
		{"aa", "a"},
		{"ab", "aaz"},
		{"b", "abcdefgh"},
		{"zzzzzzzz", "zzzzzzzz"},
		{"a", "c", "b"},
		{"a", "c", "c"},
		// Each peer comes after the first one, but not after the preceding one.
		{"a", "d", "c", "e"},
		{"a", "b", "c", "d", "e", "e"},
		{"a", "b", "c", "d", "f", "e"},
		{"f", "e", "d", "c", "b", "a"},
		{"b", "c", "d", "e", "f", "a"},
	} {
		checkInvalid(t, table(ids...), api.ErrForm)
	}
}

// The other errors of a peer come before its order, and the errors of a peer
// before those of the next one.
func TestCheckFirst(t *testing.T) {
	for _, r := range broken("a") {
		checkInvalid(t, []api.Peer{peer("b"), r.it}, r.want)
		checkInvalid(t, []api.Peer{peer("b"), peer("c"), r.it, peer("a")}, r.want)
		// The order of the first two comes before the error of the third.
		checkInvalid(t, []api.Peer{peer("b"), peer("a"), r.it}, api.ErrForm)
		checkInvalid(t, []api.Peer{peer("b"), peer("b"), r.it}, api.ErrForm)
		for _, s := range broken("c") {
			checkCheck(t, []api.Peer{r.it, s.it}, r.want)
			checkCheck(t, []api.Peer{peer("a"), s.it, r.it}, s.want)
		}
	}
}

// fresh is a peer as Add makes it.
func fresh(id string, size, first, now int) api.Peer {
	return api.Peer{Id: id, Win: api.Window{Cap: size, Vals: []int{first}}, Last: now}
}

func TestAdd(t *testing.T) {
	five := full()[:5]
	for _, r := range []struct {
		id string
		at int
	}{
		{"a", 0}, {"azzzzzzz", 0}, {"ba", 1}, {"bazzzzzz", 1}, {"bba", 2}, {"c", 2}, {"czzzzzzz", 2},
		{"da", 3}, {"e", 3}, {"fa", 4}, {"ffffffff", 5}, {"g", 5}, {"zzzzzzzz", 5},
	} {
		checkAdd(t, five, r.id, 4, 7, 90, slices.Insert(copyTable(five), r.at, fresh(r.id, 4, 7, 90)), api.OK)
	}
	checkAdd(t, nil, "a", 1, 0, 0, []api.Peer{fresh("a", 1, 0, 0)}, api.OK)
	checkAdd(t, []api.Peer{}, "abcdefgh", 64, greatest, latest, []api.Peer{fresh("abcdefgh", 64, greatest, latest)}, api.OK)
}

// Add takes all numbers up to their bounds, and they are independent of each
// other and of the peers that are there.
func TestAddBounds(t *testing.T) {
	for _, size := range append(ramp(64), badSizes()...) {
		want := []api.Peer{peer("b"), fresh("c", size, 7, 5)}
		if size < 1 || size > 64 {
			failsAdd(t, table("b"), "c", size, 7, 5, api.ErrArg)
		} else {
			checkAdd(t, table("b"), "c", size, 7, 5, want, api.OK)
		}
	}
	for _, first := range []int{0, 1, 2, greatest - 1, greatest} {
		for _, now := range []int{0, 1, 99, 100, 101, greatest + 1, latest - 1, latest} {
			for _, size := range []int{1, 2, 63, 64} {
				checkAdd(t, table("b"), "a", size, first, now, []api.Peer{fresh("a", size, first, now), peer("b")}, api.OK)
			}
		}
	}
}

// In whatever order peers are added, the table has the same order.
func TestAddAnyOrder(t *testing.T) {
	source := rand.New(rand.NewPCG(18, 1))
	ids := []string{"a", "aa", "ab", "azzzzzzz", "b", "ba"}
	want := []api.Peer{}
	for i, id := range ids {
		want = append(want, fresh(id, i+1, i, 10*i))
	}
	for range 720 {
		l := []api.Peer(nil)
		for _, i := range source.Perm(len(ids)) {
			var errno api.Errno
			if l, errno = Add(l, ids[i], i+1, i, 10*i); errno != api.OK {
				t.Fatalf("Add %q: %d", ids[i], errno)
			}
		}
		if !equal(l, want) || Check(l) != api.OK {
			t.Fatalf("the table is %v; want %v", l, want)
		}
	}
}

func TestAddErrors(t *testing.T) {
	for _, l := range [][]api.Peer{nil, table("b"), full()[:5], full()} {
		for _, id := range badIds() {
			failsAdd(t, l, id, 4, 7, 200, api.ErrForm)
			failsAdd(t, l, id, 0, 7, 200, api.ErrForm)
			failsAdd(t, l, id, 4, -1, 200, api.ErrForm)
			failsAdd(t, l, id, 4, 7, -1, api.ErrForm)
		}
		// Numbers come before the peer that is there, and before the full table.
		for _, id := range []string{"a", "b", "h", "z"} {
			for _, size := range badSizes() {
				failsAdd(t, l, id, size, 7, 200, api.ErrArg)
				failsAdd(t, l, id, size, 0, 0, api.ErrArg)
			}
			for _, first := range badFirsts() {
				failsAdd(t, l, id, 4, first, 200, api.ErrArg)
				failsAdd(t, l, id, 64, first, 0, api.ErrArg)
			}
			for _, now := range badTimes() {
				failsAdd(t, l, id, 4, 7, now, api.ErrArg)
				failsAdd(t, l, id, 1, 0, now, api.ErrArg)
			}
			failsAdd(t, l, id, 0, -1, -1, api.ErrArg)
		}
	}
}

func TestAddThereOrFull(t *testing.T) {
	for count := 1; count <= 6; count++ {
		l := full()[:count]
		for _, p := range l {
			failsAdd(t, l, p.Id, 4, 7, 200, api.ErrThere)
			failsAdd(t, l, p.Id, p.Win.Cap, 8, p.Last, api.ErrThere)
		}
	}
	for _, id := range []string{"a", "ba", "c", "e", "g", "z", "zzzzzzzz"} {
		failsAdd(t, full(), id, 4, 7, 200, api.ErrFull)
	}
}

func TestDrop(t *testing.T) {
	for count := range 7 {
		l := full()[:count]
		for at, p := range l {
			checkDrop(t, l, p.Id, slices.Delete(copyTable(l), at, at+1), api.OK)
		}
		for _, id := range append(badIds(), "a", "ba", "bbb", "c", "fffffff", "ffffffff", "g", "i", "zzzzzzzz") {
			checkDrop(t, l, id, nil, api.ErrNone)
		}
	}
	checkDrop(t, []api.Peer{}, "a", nil, api.ErrNone)
	checkDrop(t, nil, "", nil, api.ErrNone)
}

// What Add inserted, Drop removes; and it can be added once more.
func TestAddDrop(t *testing.T) {
	for count := range 6 {
		l := full()[:count]
		for _, id := range []string{"a", "ba", "c", "e", "g", "zz"} {
			more, errno := Add(l, id, 4, 7, 90)
			if errno != api.OK {
				t.Fatalf("Add %q: %d", id, errno)
			}
			checkDrop(t, more, id, l, api.OK)
			less, _ := Drop(more, id)
			checkAdd(t, less, id, 4, 7, 90, more, api.OK)
		}
	}
}

// heard returns l after the peer at a place accepted a heartbeat.
func heard(l []api.Peer, at, inc, seq, now int, vals ...int) []api.Peer {
	l = copyTable(l)
	l[at].Gate.Inc, l[at].Gate.Seq, l[at].Last = inc, seq, now
	l[at].Win.Vals = vals
	return l
}

func TestHearAccepts(t *testing.T) {
	l := table("b", "d", "f")
	for _, r := range []struct{ inc, seq int }{
		{3, 6}, {3, 7}, {3, lastNum}, {4, 1}, {4, 5}, {lastNum, 1}, {lastNum, lastNum},
	} {
		for _, n := range []struct{ now, interval int }{
			{100, 0}, {101, 1}, {150, 50}, {greatest, greatest - 100}, {greatest + 99, greatest - 1},
			{greatest + 100, greatest}, {greatest + 101, greatest}, {latest - 1, greatest}, {latest, greatest},
		} {
			for at, id := range []string{"b", "d", "f"} {
				want := heard(l, at, r.inc, r.seq, n.now, 8, 1, 6+at, n.interval)
				checkHear(t, l, api.Beat{Id: id, Inc: r.inc, Seq: r.seq}, n.now, want, true, api.OK)
			}
		}
	}
}

// The interval takes the place of the first value if the window is full.
func TestHearWindows(t *testing.T) {
	for _, r := range []struct {
		w    api.Window
		want []int
	}{
		{api.Window{Cap: 1}, []int{30}},
		{api.Window{Cap: 64}, []int{30}},
		{api.Window{Cap: 1, Vals: []int{9}}, []int{30}},
		{api.Window{Cap: 2, Vals: []int{9}}, []int{9, 30}},
		{api.Window{Cap: 2, Vals: []int{9, 8}}, []int{8, 30}},
		{api.Window{Cap: 3, Vals: []int{9, 8, 7}}, []int{8, 7, 30}},
		{api.Window{Cap: 64, Vals: ramp(63)}, append(ramp(63), 30)},
		{api.Window{Cap: 64, Vals: ramp(64)}, append(ramp(64)[1:], 30)},
	} {
		l := full()
		l[3].Win = r.w
		checkHear(t, l, api.Beat{Id: "f", Inc: 3, Seq: 6}, 130, heard(l, 3, 3, 6, 130, r.want...), true, api.OK)
	}
}

// The gate of a peer that was added has accepted nothing.
func TestHearFirst(t *testing.T) {
	for _, r := range []struct{ inc, seq int }{{0, 1}, {0, lastNum}, {1, 1}, {lastNum, lastNum}} {
		l, _ := Add(nil, "a", 2, 5, 7)
		checkHear(t, l, api.Beat{Id: "a", Inc: r.inc, Seq: r.seq}, 7, heard(l, 0, r.inc, r.seq, 7, 5, 0), true, api.OK)
	}
	// The latest time, counted from the first one, is more than a value.
	l, _ := Add(nil, "a", 2, 5, 0)
	checkHear(t, l, api.Beat{Id: "a", Seq: 1}, latest, heard(l, 0, 0, 1, latest, 5, greatest), true, api.OK)
}

// Of a rejected heartbeat, only the gate takes note.
func TestHearRejects(t *testing.T) {
	for _, r := range []struct{ inc, seq int }{
		{3, 5}, {3, 4}, {3, 1}, {2, 6}, {2, lastNum}, {0, 1}, {0, 6},
	} {
		for _, n := range []struct{ before, after int }{
			{0, 1}, {7, 8}, {mostDrop - 1, mostDrop}, {mostDrop, mostDrop},
		} {
			for _, now := range []int{100, 101, 200, greatest + 101, latest} {
				for at, id := range []string{"b", "d", "f"} {
					l := table("b", "d", "f")
					l[at].Gate.Drops = n.before
					want := copyTable(l)
					want[at].Gate.Drops = n.after
					checkHear(t, l, api.Beat{Id: id, Inc: r.inc, Seq: r.seq}, now, want, false, api.OK)
				}
			}
		}
	}
}

// An accepted heartbeat is rejected when it arrives again, also at once.
func TestHearOnce(t *testing.T) {
	l, _ := Add(full()[:5], "z", 3, 4, 50)
	b := api.Beat{Id: "z", Inc: 1, Seq: 9}
	once, ok, errno := Hear(l, b, 60)
	if !ok || errno != api.OK {
		t.Fatalf("Hear: %t, %d", ok, errno)
	}
	for _, now := range []int{60, 61, latest} {
		want := copyTable(once)
		want[5].Gate.Drops = 1
		checkHear(t, once, b, now, want, false, api.OK)
	}
}

// badBeats are heartbeats with an error of beat.Check.
func badBeats(id string) []faulty[api.Beat] {
	all := []faulty[api.Beat]{}
	add := func(want api.Errno, b api.Beat) {
		all = append(all, faulty[api.Beat]{b, want})
	}
	add(api.ErrForm, api.Beat{})
	for _, bad := range badIds() {
		add(api.ErrForm, api.Beat{Id: bad, Inc: 3, Seq: 6})
		add(api.ErrForm, api.Beat{Id: bad, Inc: -1})
	}
	for _, n := range []int{math.MinInt, -1, lastNum + 1, 1<<32 + 7, math.MaxInt} {
		add(api.ErrArg, api.Beat{Id: id, Inc: n, Seq: 6})
		add(api.ErrArg, api.Beat{Id: id, Inc: 3, Seq: n})
	}
	add(api.ErrArg, api.Beat{Id: id, Inc: 3})
	add(api.ErrArg, api.Beat{Id: id, Inc: 4})
	return all
}

func TestHearErrors(t *testing.T) {
	for _, l := range [][]api.Peer{nil, table("d"), full()} {
		// The heartbeat comes before the time, and before the peer.
		for _, id := range []string{"d", "e"} {
			for _, r := range badBeats(id) {
				for _, now := range append(badTimes(), 0, 99, 100, latest) {
					failsHear(t, l, r.it, now, r.want)
				}
			}
		}
		// The time comes before the peer, which comes before its Last.
		for _, id := range []string{"b", "d", "e", "h", "z"} {
			for _, now := range badTimes() {
				failsHear(t, l, api.Beat{Id: id, Inc: 3, Seq: 6}, now, api.ErrArg)
			}
		}
		for _, id := range []string{"a", "ba", "da", "e", "g", "z", "zzzzzzzz"} {
			for _, now := range []int{0, 99, 100, 101, latest} {
				failsHear(t, l, api.Beat{Id: id, Inc: 3, Seq: 6}, now, api.ErrNone)
			}
		}
	}
}

// A heartbeat that arrives before the last one is an error, whether or not the
// gate would accept it; and only the Last of its own peer counts.
func TestHearBeforeLast(t *testing.T) {
	l := full()
	for i := range l {
		l[i].Last = 100 * (i + 1)
	}
	l[5].Last = latest
	for at, p := range l {
		for _, now := range []int{0, 1, p.Last - 2, p.Last - 1} {
			failsHear(t, l, api.Beat{Id: p.Id, Inc: 3, Seq: 6}, now, api.ErrArg)
			failsHear(t, l, api.Beat{Id: p.Id, Inc: 3, Seq: 5}, now, api.ErrArg)
		}
		want := heard(l, at, 3, 6, p.Last, append(slices.Clone(p.Win.Vals), 0)...)
		checkHear(t, l, api.Beat{Id: p.Id, Inc: 3, Seq: 6}, p.Last, want, true, api.OK)
	}
}

// model is a naive table: a map of peers by their identifiers.
type model map[string]api.Peer

func (m model) table() []api.Peer {
	l := []api.Peer{}
	for _, id := range slices.Sorted(maps.Keys(m)) {
		l = append(l, m[id])
	}
	return l
}

func (m model) add(id string, size, first, now int) api.Errno {
	if _, there := m[id]; there {
		return api.ErrThere
	}
	if len(m) == 6 {
		return api.ErrFull
	}
	m[id] = fresh(id, size, first, now)
	return api.OK
}

func (m model) drop(id string) api.Errno {
	if _, there := m[id]; !there {
		return api.ErrNone
	}
	delete(m, id)
	return api.OK
}

func (m model) hear(b api.Beat, now int) (bool, api.Errno) {
	p, there := m[b.Id]
	if !there {
		return false, api.ErrNone
	}
	if now < p.Last {
		return false, api.ErrArg
	}
	isNew := b.Inc > p.Gate.Inc || b.Inc == p.Gate.Inc && b.Seq > p.Gate.Seq
	if isNew {
		all := append(slices.Clone(p.Win.Vals), min(now-p.Last, greatest))
		p.Win.Vals = all[max(0, len(all)-p.Win.Cap):]
		p.Gate.Inc, p.Gate.Seq, p.Last = b.Inc, b.Seq, now
	} else {
		p.Gate.Drops++
	}
	m[b.Id] = p
	return isNew, api.OK
}

// Long rows of calls give what the naive model gives, and each table is valid.
func TestModel(t *testing.T) {
	source := rand.New(rand.NewPCG(18, 2))
	ids := []string{"a", "aa", "ab", "b", "ba", "c", "cc", "zzzzzzzz"}
	for range 100 {
		m, l, now := model{}, []api.Peer(nil), 0
		for range 300 {
			id := ids[source.IntN(len(ids))]
			var next []api.Peer
			var got, want api.Errno
			var ok, wantOk bool
			switch source.IntN(8) {
			case 0, 1:
				size, first := 1+source.IntN(5), source.IntN(50)
				next, got = Add(l, id, size, first, now)
				want = m.add(id, size, first, now)
			case 2:
				next, got = Drop(l, id)
				want = m.drop(id)
			default:
				now += source.IntN(1 << source.IntN(26))
				at := max(0, now-source.IntN(3)*source.IntN(100))
				b := api.Beat{Id: id, Inc: source.IntN(4), Seq: 1 + source.IntN(20)}
				next, ok, got = Hear(l, b, at)
				wantOk, want = m.hear(b, at)
			}
			if got != want || ok != wantOk {
				t.Fatalf("%q at %d, %v: %t, %d; want %t, %d", id, now, l, ok, got, wantOk, want)
			}
			if got == api.OK {
				l = next
			}
			if !equal(l, m.table()) || Check(l) != api.OK {
				t.Fatalf("%q at %d: the table is %v; want %v", id, now, l, m.table())
			}
		}
	}
}

// calls are calls that succeed for the table of stored.
func calls() []func(l []api.Peer) []api.Peer {
	hear := func(id string, seq int) func(l []api.Peer) []api.Peer {
		return func(l []api.Peer) []api.Peer {
			next, _, _ := Hear(l, api.Beat{Id: id, Inc: 3, Seq: seq}, 120)
			return next
		}
	}
	add := func(id string) func(l []api.Peer) []api.Peer {
		return func(l []api.Peer) []api.Peer {
			next, _ := Add(l, id, 4, 7, 90)
			return next
		}
	}
	drop := func(id string) func(l []api.Peer) []api.Peer {
		return func(l []api.Peer) []api.Peer {
			next, _ := Drop(l, id)
			return next
		}
	}
	return []func(l []api.Peer) []api.Peer{
		add("a"), add("c"), add("e"), add("g"), drop("b"), drop("d"), drop("f"),
		hear("b", 6), hear("d", 6), hear("f", 6), hear("b", 5), hear("d", 5), hear("f", 5),
	}
}

// stored returns the peers b, d and f in the first places of a longer list,
// with their windows side by side in the same memory.
func stored() ([]api.Peer, []int) {
	values := []int{8, 1, 6, -4, 8, 1, 6, -8, 8, 1, 6, -12}
	l := table("b", "d", "f", "aaa", "AAA")
	for i := range 3 {
		l[i].Win.Vals = values[4*i : 4*i+3]
	}
	return l, values
}

// No call changes its arguments, nor what lies behind their ends.
func TestArgumentsRemain(t *testing.T) {
	for i, call := range calls() {
		l, values := stored()
		before, valuesBefore := copyTable(l), slices.Clone(values)
		Check(l[:3])
		Check(l)
		first := call(l[:3])
		if len(first) == 0 {
			t.Fatalf("call %d failed", i)
		}
		spoil(first)
		if !equal(l, before) || !slices.Equal(values, valuesBefore) {
			t.Errorf("call %d: the arguments are now %v, %v", i, l, values)
		}
	}
}

// No result changes with the arguments, with another result, or with another
// part of the same result.
func TestResultsAreNew(t *testing.T) {
	for i, call := range calls() {
		l, values := stored()
		first, second := call(l[:3]), call(l[:3])
		want := copyTable(first)
		spoil(l)
		clear(values)
		if !equal(first, want) || !equal(second, want) {
			t.Errorf("call %d: a result shares memory with the arguments", i)
		}
		spoil(second)
		if !equal(first, want) {
			t.Errorf("call %d: the results share memory", i)
		}
		for at := range first {
			spoilVals(first[at].Win.Vals)
			want[at].Win.Vals = first[at].Win.Vals
			if !equal(first, want) {
				t.Errorf("call %d: the windows share memory", i)
			}
		}
	}
}

// spoil overwrites all of a table, its spare capacity included.
func spoil(l []api.Peer) {
	for i := range l {
		spoilVals(l[i].Win.Vals)
	}
	l = l[:cap(l)]
	for i := range l {
		l[i] = api.Peer{Id: "spoilt"}
	}
}

func spoilVals(vals []int) {
	vals = vals[:cap(vals)]
	for i := range vals {
		vals[i] = -99
	}
}
