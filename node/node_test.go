package node

import (
	"encoding/binary"
	"hash/crc32"
	"maps"
	"math"
	"math/big"
	"math/rand/v2"
	"reflect"
	"slices"
	"strings"
	"testing"

	"heartwood/api"
	"heartwood/beat"
)

const (
	latest   = 1 << 30   // time
	greatest = 1 << 24   // value
	lastNum  = 1<<31 - 1 // incarnation, or sequence number
	drops    = 1 << 30   // dropped messages that are counted
)

// badIds are strings that are not identifiers.
func badIds() []string {
	return []string{
		"", "A", "Z", "`", "{", "0", " ", "\x00", "\xff", "a b", "aB", "ab1", "a\x00", "\u00e9", "abcdefg{",
		"abcdefghi", strings.Repeat("a", 257), strings.Repeat("z", 100000),
	}
}

// badThetas are numbers that are not thresholds.
func badThetas() []int {
	return []int{math.MinInt, -60, -1, 0, 61, 62, 127, 1 << 24, 1<<32 + 1, math.MaxInt}
}

// usual is a valid configuration.
func usual() api.Config {
	return api.Config{Id: "m", Inc: 7, Every: 5, Cap: 3, Least: 2}
}

func start(t *testing.T, c api.Config) *Node {
	t.Helper()
	n, errno := New(c)
	if n == nil || errno != api.OK {
		t.Fatalf("New %v: %v, %d", c, n, errno)
	}
	return n
}

// state is what a node tells of itself.
type state struct {
	now, seq, drops int
	peers           []api.Peer
	subs            []api.Sub
}

// stateOf returns the state of n, in which no slice is nil.
func stateOf(n *Node) state {
	s := state{n.Now(), n.Seq(), n.Drops(), append([]api.Peer{}, n.Peers()...), append([]api.Sub{}, n.Subs()...)}
	for i := range s.peers {
		s.peers[i].Win.Vals = append([]int{}, s.peers[i].Win.Vals...)
	}
	return s
}

func checkState(t *testing.T, n *Node, want state) {
	t.Helper()
	if got := stateOf(n); !reflect.DeepEqual(got, want) {
		t.Fatalf("the node is %v; want %v", got, want)
	}
}

func checkOk(t *testing.T, name string, errno api.Errno) {
	t.Helper()
	if errno != api.OK {
		t.Fatalf("%s: %d", name, errno)
	}
}

// checkTick checks what Tick returns; the heartbeats by their numbers.
func checkTick(t *testing.T, n *Node, ticks int, seqs []int, notes []api.Note) {
	t.Helper()
	sent, got, errno := n.Tick(ticks)
	if !slices.Equal(sent, encoded(n.config, seqs)) || !slices.Equal(got, notes) || errno != api.OK {
		t.Fatalf("Tick %d: %q, %v, %d; want %v, %v", ticks, sent, got, errno, seqs, notes)
	}
}

// tick lets n tick, whatever that returns.
func tick(t *testing.T, n *Node, ticks int) {
	t.Helper()
	_, _, errno := n.Tick(ticks)
	checkOk(t, "Tick", errno)
}

func watch(t *testing.T, n *Node, every int, ids ...string) {
	t.Helper()
	for _, id := range ids {
		checkOk(t, "Watch "+id, n.Watch(id, every))
	}
}

func checkHear(t *testing.T, n *Node, s string, notes []api.Note, want api.Errno) {
	t.Helper()
	if got, errno := n.Hear(s); !slices.Equal(got, notes) || errno != want {
		t.Fatalf("Hear %.60q: %v, %d; want %v, %d", s, got, errno, notes, want)
	}
}

func checkJoin(t *testing.T, n *Node, id string, theta int, notes []api.Note, want api.Errno) {
	t.Helper()
	if got, errno := n.Join(id, theta); !slices.Equal(got, notes) || errno != want {
		t.Fatalf("Join %.60q, %d: %v, %d; want %v, %d", id, theta, got, errno, notes, want)
	}
}

func checkLevel(t *testing.T, n *Node, id string, level int, want api.Errno) {
	t.Helper()
	if got, errno := n.Level(id); got != level || errno != want {
		t.Fatalf("Level %.60q: %d, %d; want %d, %d", id, got, errno, level, want)
	}
}

// same checks that a call which returned an error has changed nothing.
func same(t *testing.T, n *Node, call func() api.Errno, want api.Errno) {
	t.Helper()
	before := stateOf(n)
	if errno := call(); errno != want {
		t.Fatalf("got %d; want %d", errno, want)
	}
	checkState(t, n, before)
}

func message(t *testing.T, id string, inc, seq int) string {
	t.Helper()
	s, errno := beat.Encode(api.Beat{Id: id, Inc: inc, Seq: seq})
	checkOk(t, "Encode", errno)
	return s
}

// encoded are the heartbeats with these numbers.
func encoded(c api.Config, seqs []int) []string {
	l := []string{}
	for _, seq := range seqs {
		s, _ := beat.Encode(api.Beat{Id: c.Id, Inc: c.Inc, Seq: seq})
		l = append(l, s)
	}
	return l
}

// from returns the numbers first to last.
func from(first, last int) []int {
	l := []int{}
	for i := first; i <= last; i++ {
		l = append(l, i)
	}
	return l
}

// checkConfig checks what Check and New return for an invalid configuration.
func checkConfig(t *testing.T, c api.Config, want api.Errno) {
	t.Helper()
	if errno := Check(c); errno != want {
		t.Errorf("Check %.100v: %d; want %d", c, errno, want)
	}
	if n, errno := New(c); n != nil || errno != want {
		t.Errorf("New %.100v: %v, %d; want %d", c, n, errno, want)
	}
}

func TestCheck(t *testing.T) {
	for _, c := range []api.Config{
		usual(),
		{Id: "a", Every: 1, Cap: 1, Least: 1},
		{Id: "zzzzzzzz", Inc: lastNum, Every: greatest, Cap: 64, Least: greatest},
		{Id: "abcdefgh", Inc: 0, Every: greatest, Cap: 1, Least: 1},
		{Id: "z", Inc: lastNum - 1, Every: 1, Cap: 64, Least: greatest - 1},
	} {
		checkOk(t, "Check", Check(c))
		start(t, c)
	}
}

func TestCheckErrors(t *testing.T) {
	for _, id := range badIds() {
		c := usual()
		c.Id = id
		checkConfig(t, c, api.ErrForm)
		// The identifier comes before all numbers.
		checkConfig(t, api.Config{Id: id, Inc: -1, Every: 0, Cap: 65, Least: -1}, api.ErrForm)
	}
	for _, bad := range []int{math.MinInt, -1, 1 << 31, 1<<32 + 5, math.MaxInt} {
		c := usual()
		c.Inc = bad
		checkConfig(t, c, api.ErrArg)
	}
	for _, bad := range []int{math.MinInt, -5, -1, 0, greatest + 1, 1 << 25, 1<<32 + 5, math.MaxInt} {
		every, least := usual(), usual()
		every.Every, least.Least = bad, bad
		checkConfig(t, every, api.ErrArg)
		checkConfig(t, least, api.ErrArg)
	}
	for _, bad := range []int{math.MinInt, -1, 0, 65, 66, greatest, 1<<32 + 1, math.MaxInt} {
		c := usual()
		c.Cap = bad
		checkConfig(t, c, api.ErrArg)
	}
	checkConfig(t, api.Config{}, api.ErrForm)
	checkConfig(t, api.Config{Id: "a"}, api.ErrArg)
}

func TestNew(t *testing.T) {
	n := start(t, usual())
	checkState(t, n, state{0, 0, 0, []api.Peer{}, []api.Sub{}})
	checkLevel(t, n, "m", 0, api.ErrNone)
	// Each node has a state of its own.
	other := start(t, usual())
	tick(t, n, 9)
	watch(t, n, 10, "b")
	checkState(t, other, state{0, 0, 0, []api.Peer{}, []api.Sub{}})
}

// A heartbeat is sent at every multiple of Every after time 0.
func TestTickHeartbeats(t *testing.T) {
	n := start(t, usual())
	checkTick(t, n, 4, nil, nil)
	checkTick(t, n, 1, []int{1}, nil)
	checkTick(t, n, 4, nil, nil)
	checkTick(t, n, 2, []int{2}, nil)
	checkTick(t, n, 13, []int{3, 4}, nil)
	checkTick(t, n, 1, []int{5}, nil)
	checkTick(t, n, 5, []int{6}, nil)
	checkTick(t, n, 15, []int{7, 8, 9}, nil)
	checkState(t, n, state{45, 9, 0, []api.Peer{}, []api.Sub{}})
	sent, _, _ := n.Tick(5)
	if b, errno := beat.Decode(sent[0]); b != (api.Beat{Id: "m", Inc: 7, Seq: 10}) || errno != api.OK {
		t.Errorf("the heartbeat is %v, %d", b, errno)
	}
}

// However the time is divided, the same heartbeats are sent.
func TestTickDivided(t *testing.T) {
	source := rand.New(rand.NewPCG(19, 1))
	for every := 1; every <= 20; every++ {
		c := usual()
		c.Every = every
		n, all := start(t, c), []string{}
		for n.Now() < 40*every {
			sent, _, errno := n.Tick(1 + source.IntN(min(2*every, 40*every-n.Now())))
			checkOk(t, "Tick", errno)
			all = append(all, sent...)
			if n.Seq() != n.Now()/every || len(all) != n.Seq() {
				t.Fatalf("every %d: %d heartbeats, Seq %d at %d", every, len(all), n.Seq(), n.Now())
			}
		}
		whole := start(t, c)
		sent, _, errno := whole.Tick(40 * every)
		if !slices.Equal(all, sent) || !slices.Equal(all, encoded(c, from(1, 40))) || errno != api.OK {
			t.Errorf("every %d: %q and %q, %d", every, all, sent, errno)
		}
	}
}

// Each call takes fewer than 64 times Every ticks; 64 heartbeats fit in them.
func TestTickLong(t *testing.T) {
	for _, every := range []int{1, 2, 5, 1000, greatest - 1} {
		c := usual()
		c.Every = every
		n := start(t, c)
		for _, ticks := range []int{64 * every, 64*every + 1, 65 * every, latest} {
			same(t, n, func() api.Errno { return tickErrno(t, n, min(ticks, latest)) }, api.ErrLarge)
		}
		checkTick(t, n, 64*every-1, from(1, 63), nil)
		if every > 1 && every < greatest-1 {
			checkTick(t, n, 64*every-1, from(64, 127), nil)
		}
	}
	// A division that rounded up would be 64 here.
	n := start(t, usual())
	tick(t, n, 4)
	checkTick(t, n, 319, from(1, 64), nil)
}

// tickErrno lets n tick and returns the error, with which there is no result.
func tickErrno(t *testing.T, n *Node, ticks int) api.Errno {
	t.Helper()
	sent, notes, errno := n.Tick(ticks)
	if len(sent) != 0 || len(notes) != 0 {
		t.Fatalf("Tick %d: %q, %v with %d", ticks, sent, notes, errno)
	}
	return errno
}

func TestTickErrors(t *testing.T) {
	n := start(t, usual())
	watch(t, n, 10, "b")
	checkJoin(t, n, "b", 1, nil, api.OK)
	tick(t, n, 7)
	for _, ticks := range []int{math.MinInt, -latest, -1, 0, latest + 1, latest + 2, 1 << 31, 1<<32 + 5, math.MaxInt} {
		same(t, n, func() api.Errno { return tickErrno(t, n, ticks) }, api.ErrArg)
	}
	// A failed call does not notify: the peer would be suspected.
	for _, ticks := range []int{320, 321, 1000, latest - 7, latest - 6, latest} {
		same(t, n, func() api.Errno { return tickErrno(t, n, ticks) }, api.ErrLarge)
	}
}

func TestTickToTheEnd(t *testing.T) {
	c := usual()
	c.Every = greatest
	n := start(t, c)
	same(t, n, func() api.Errno { return tickErrno(t, n, latest) }, api.ErrLarge)
	checkTick(t, n, latest-1, from(1, 63), nil)
	for _, ticks := range []int{2, 3, 1000, latest - 1} {
		same(t, n, func() api.Errno { return tickErrno(t, n, ticks) }, api.ErrLarge)
	}
	same(t, n, func() api.Errno { return tickErrno(t, n, latest+1) }, api.ErrArg)
	checkTick(t, n, 1, []int{64}, nil)
	for _, ticks := range []int{1, 2, latest} {
		same(t, n, func() api.Errno { return tickErrno(t, n, ticks) }, api.ErrLarge)
	}
	same(t, n, func() api.Errno { return tickErrno(t, n, 0) }, api.ErrArg)
	checkState(t, n, state{latest, 64, 0, []api.Peer{}, []api.Sub{}})
}

func TestWatch(t *testing.T) {
	n := start(t, usual())
	watch(t, n, 10, "z")
	tick(t, n, 6)
	watch(t, n, 0, "a")
	watch(t, n, greatest, "mm")
	peers := []api.Peer{
		{Id: "a", Win: api.Window{Cap: 3, Vals: []int{0}}, Last: 6},
		{Id: "mm", Win: api.Window{Cap: 3, Vals: []int{greatest}}, Last: 6},
		{Id: "z", Win: api.Window{Cap: 3, Vals: []int{10}}},
	}
	checkState(t, n, state{6, 1, 0, peers, []api.Sub{}})
}

func TestWatchErrors(t *testing.T) {
	n := start(t, usual())
	watch(t, n, 10, "b", "d", "f", "h", "j")
	badEverys := []int{math.MinInt, -1, greatest + 1, 1<<32 + 5, math.MaxInt}
	check := func(id string, every int, want api.Errno) {
		t.Helper()
		same(t, n, func() api.Errno { return n.Watch(id, every) }, want)
	}
	// The node's own identifier comes before the number.
	for _, every := range append(badEverys, 0, 10) {
		check("m", every, api.ErrThere)
	}
	for _, id := range badIds() {
		check(id, 10, api.ErrForm)
		check(id, -1, api.ErrForm)
	}
	// The number comes before the peer that is there.
	for _, every := range badEverys {
		check("b", every, api.ErrArg)
		check("c", every, api.ErrArg)
	}
	check("b", 10, api.ErrThere)
	check("j", 20, api.ErrThere)
	watch(t, n, 10, "l")
	check("c", 10, api.ErrFull)
	check("m", 10, api.ErrThere)
	check("l", 10, api.ErrThere)
	check("c", -1, api.ErrArg)
	check("C", 10, api.ErrForm)
}

func TestLeave(t *testing.T) {
	n := start(t, usual())
	watch(t, n, 10, "b", "c", "d")
	for _, s := range []api.Sub{{Id: "c", Theta: 9}, {Id: "b", Theta: 2}, {Id: "c", Theta: 1}, {Id: "d", Theta: 60}, {Id: "b", Theta: 9}, {Id: "c", Theta: 2}} {
		checkJoin(t, n, s.Id, s.Theta, nil, api.OK)
	}
	checkTick(t, n, 14, []int{1, 2}, []api.Note{{Id: "b", Theta: 2, Suspect: true}, {Id: "c", Theta: 1, Suspect: true}, {Id: "c", Theta: 2, Suspect: true}})
	for _, id := range append(badIds(), "m", "a", "bb", "e") {
		same(t, n, func() api.Errno { return n.Leave(id) }, api.ErrNone)
	}
	checkOk(t, "Leave", n.Leave("c"))
	peers := []api.Peer{
		{Id: "b", Win: api.Window{Cap: 3, Vals: []int{10}}},
		{Id: "d", Win: api.Window{Cap: 3, Vals: []int{10}}},
	}
	checkState(t, n, state{14, 2, 0, peers, []api.Sub{{Id: "b", Theta: 2, On: true}, {Id: "d", Theta: 60}, {Id: "b", Theta: 9}}})
	same(t, n, func() api.Errno { return n.Leave("c") }, api.ErrNone)
	// A peer that is watched again starts anew, without subscriptions.
	watch(t, n, 7, "c")
	checkLevel(t, n, "c", 0, api.OK)
	checkOk(t, "Leave", n.Leave("b"))
	checkOk(t, "Leave", n.Leave("d"))
	checkState(t, n, state{14, 2, 0, []api.Peer{{Id: "c", Win: api.Window{Cap: 3, Vals: []int{7}}, Last: 14}}, []api.Sub{}})
}

func TestHearAccepts(t *testing.T) {
	n := start(t, usual())
	watch(t, n, 10, "a", "b")
	tick(t, n, 13)
	checkHear(t, n, message(t, "b", 0, 4), nil, api.OK)
	tick(t, n, 8)
	checkHear(t, n, message(t, "b", 0, 5), nil, api.OK)
	checkHear(t, n, message(t, "b", 2, 1), nil, api.OK)
	peers := []api.Peer{
		{Id: "a", Win: api.Window{Cap: 3, Vals: []int{10}}},
		{Id: "b", Gate: api.Gate{Inc: 2, Seq: 1}, Win: api.Window{Cap: 3, Vals: []int{13, 8, 0}}, Last: 21},
	}
	checkState(t, n, state{21, 4, 0, peers, []api.Sub{}})
}

// An interval counts as at most 2^24 ticks.
func TestHearLate(t *testing.T) {
	c := usual()
	c.Every = greatest
	n := start(t, c)
	watch(t, n, 10, "b")
	tick(t, n, greatest+1)
	checkHear(t, n, message(t, "b", lastNum, 1), nil, api.OK)
	tick(t, n, latest-n.Now())
	checkHear(t, n, message(t, "b", lastNum, lastNum), nil, api.OK)
	peers := []api.Peer{{Id: "b", Gate: api.Gate{Inc: lastNum, Seq: lastNum}, Win: api.Window{Cap: 3, Vals: []int{10, greatest, greatest}}, Last: latest}}
	checkState(t, n, state{latest, 64, 0, peers, []api.Sub{}})
}

// badMessages are messages with an error of beat.Decode.
func badMessages(t *testing.T) map[string]api.Errno {
	good := message(t, "b", 1, 2)
	return map[string]api.Errno{
		"": api.ErrShort, "H": api.ErrShort, "x": api.ErrShort, good[:len(good)-1]: api.ErrShort,
		"G" + good[1:]: api.ErrForm, "H\x00" + good[2:]: api.ErrForm, "H\x09" + good[2:]: api.ErrForm,
		good + "\x00": api.ErrForm, good + good: api.ErrForm, strings.Repeat("x", 100000): api.ErrForm,
		"H\x01c" + good[3:]: api.ErrSum, good[:6] + "\x07" + good[7:]: api.ErrSum,
		// The checksum is right, but there is no heartbeat 0, nor a peer B.
		summed("H\x01b\x00\x00\x00\x00\x00\x00\x00\x00"): api.ErrForm,
		summed("H\x01B\x00\x00\x00\x00\x00\x00\x00\x01"): api.ErrForm,
		summed("H\x01b\x80\x00\x00\x00\x00\x00\x00\x01"): api.ErrForm,
	}
}

// summed returns a message with its checksum.
func summed(body string) string {
	sum := crc32.ChecksumIEEE([]byte(body))
	return string(binary.BigEndian.AppendUint32([]byte(body), sum))
}

// With every error one more message is dropped, and only that changes.
func TestHearErrors(t *testing.T) {
	n := start(t, usual())
	watch(t, n, 10, "b", "d")
	checkJoin(t, n, "b", 1, nil, api.OK)
	checkJoin(t, n, "d", 1, nil, api.OK)
	checkTick(t, n, 20, from(1, 4), []api.Note{{Id: "b", Theta: 1, Suspect: true}, {Id: "d", Theta: 1, Suspect: true}})
	want := stateOf(n)
	check := func(s string, errno api.Errno) {
		t.Helper()
		want.drops++
		checkHear(t, n, s, nil, errno)
		checkState(t, n, want)
	}
	for s, errno := range badMessages(t) {
		check(s, errno)
	}
	// The node does not watch itself.
	for _, id := range []string{"m", "a", "bb", "c", "z", "zzzzzzzz"} {
		check(message(t, id, 0, 1), api.ErrNone)
		check(message(t, id, lastNum, lastNum), api.ErrNone)
	}
}

// A heartbeat that is not accepted is dropped, and its peer's gate counts it.
func TestHearRejects(t *testing.T) {
	n := start(t, usual())
	watch(t, n, 10, "a", "b", "c")
	checkJoin(t, n, "b", 1, nil, api.OK)
	tick(t, n, 8)
	checkHear(t, n, message(t, "b", 3, 5), nil, api.OK)
	checkTick(t, n, 19, from(2, 5), []api.Note{{Id: "b", Theta: 1, Suspect: true}})
	want := stateOf(n)
	for i, s := range []string{
		message(t, "b", 3, 5), message(t, "b", 3, 5), message(t, "b", 3, 4), message(t, "b", 3, 1), message(t, "b", 2, lastNum), message(t, "b", 0, 6),
	} {
		want.drops, want.peers[1].Gate.Drops = i+1, i+1
		checkHear(t, n, s, nil, api.ErrThere)
		checkState(t, n, want)
	}
	checkHear(t, n, "x", nil, api.ErrShort)
	checkHear(t, n, message(t, "e", 0, 1), nil, api.ErrNone)
	checkHear(t, n, message(t, "b", 3, 6), []api.Note{{Id: "b", Theta: 1}}, api.OK)
	if n.Drops() != 8 || n.Peers()[1].Gate != (api.Gate{Inc: 3, Seq: 6, Drops: 6}) {
		t.Errorf("%d dropped, the gate is %v", n.Drops(), n.Peers()[1].Gate)
	}
}

// The number of dropped messages stays at 2^30.
func TestDropsEnd(t *testing.T) {
	n := start(t, usual())
	watch(t, n, 10, "b")
	checkHear(t, n, message(t, "b", 0, 1), nil, api.OK)
	n.drops = drops - 2
	for _, want := range []int{drops - 1, drops, drops, drops} {
		checkHear(t, n, "x", nil, api.ErrShort)
		if n.Drops() != want {
			t.Errorf("%d dropped; want %d", n.Drops(), want)
		}
	}
	checkHear(t, n, message(t, "b", 0, 1), nil, api.ErrThere)
	checkHear(t, n, message(t, "c", 0, 1), nil, api.ErrNone)
	if n.Drops() != drops || n.Peers()[0].Gate.Drops != 1 {
		t.Errorf("%d dropped, %d by the gate", n.Drops(), n.Peers()[0].Gate.Drops)
	}
}

func TestLevel(t *testing.T) {
	c := usual()
	c.Least = 1
	n := start(t, c)
	watch(t, n, 10, "b")
	for now := 1; now <= 10; now++ {
		tick(t, n, 1)
		checkLevel(t, n, "b", 0, api.OK)
	}
	// After 3 ticks above the mean, 1 + 3^2 is 2^3 or more.
	for _, want := range []int{1, 2, 3, 4, 4, 5, 5, 6} {
		tick(t, n, 1)
		checkLevel(t, n, "b", want, api.OK)
	}
	for _, id := range append(badIds(), "m", "a", "bb", "c") {
		same(t, n, func() api.Errno {
			checkLevel(t, n, id, 0, api.ErrNone)
			return api.ErrNone
		}, api.ErrNone)
	}
	// The silence is counted from the last heartbeat, or from Watch on.
	watch(t, n, 10, "c")
	checkHear(t, n, message(t, "b", 0, 1), nil, api.OK)
	checkLevel(t, n, "b", 0, api.OK)
	tick(t, n, 13)
	checkLevel(t, n, "c", 3, api.OK)
	checkLevel(t, n, "b", 0, api.OK)
}

// Least is the node's, and the greater it is, the lower is the level.
func TestLevelLeast(t *testing.T) {
	for _, r := range []struct{ least, want int }{{1, 13}, {2, 11}, {10, 6}, {50, 2}, {99, 1}, {100, 1}, {101, 0}, {greatest, 0}} {
		c := usual()
		c.Least = r.least
		n := start(t, c)
		watch(t, n, 10, "b")
		tick(t, n, 110)
		checkLevel(t, n, "b", r.want, api.OK)
	}
}

func TestJoin(t *testing.T) {
	n := start(t, usual())
	watch(t, n, 10, "b", "c")
	subs := []api.Sub{}
	for _, s := range []api.Sub{{Id: "c", Theta: 60}, {Id: "b", Theta: 60}, {Id: "c", Theta: 1}, {Id: "b", Theta: 5}, {Id: "b", Theta: 1}, {Id: "b", Theta: 59}, {Id: "c", Theta: 2}, {Id: "b", Theta: 2}} {
		checkJoin(t, n, s.Id, s.Theta, nil, api.OK)
		subs = append(subs, s)
		if !slices.Equal(n.Subs(), subs) {
			t.Fatalf("the subscriptions are %v; want %v", n.Subs(), subs)
		}
	}
	for theta := 1; theta <= 60; theta++ {
		n := start(t, usual())
		watch(t, n, 10, "b")
		checkJoin(t, n, "b", theta, nil, api.OK)
	}
}

// join calls Join and returns the error, with which there are no notifications.
func join(t *testing.T, n *Node, id string, theta int) func() api.Errno {
	return func() api.Errno {
		notes, errno := n.Join(id, theta)
		if len(notes) != 0 {
			t.Fatalf("Join %.60q, %d: %v", id, theta, notes)
		}
		return errno
	}
}

func TestJoinErrors(t *testing.T) {
	n := start(t, usual())
	watch(t, n, 10, "b", "c")
	strangers := append(badIds(), "m", "a", "bb", "d")
	for count := range 8 {
		for _, theta := range badThetas() {
			for _, id := range append(strangers, "b", "c") {
				same(t, n, join(t, n, id, theta), api.ErrArg)
			}
		}
		for _, id := range strangers {
			same(t, n, join(t, n, id, 1), api.ErrNone)
			same(t, n, join(t, n, id, 60), api.ErrNone)
		}
		checkJoin(t, n, "b", count+10, nil, api.OK)
		for _, s := range n.Subs() {
			same(t, n, join(t, n, s.Id, s.Theta), api.ErrThere)
		}
	}
	// Full comes last.
	same(t, n, join(t, n, "b", 9), api.ErrFull)
	same(t, n, join(t, n, "c", 10), api.ErrFull)
	same(t, n, join(t, n, "b", 61), api.ErrArg)
	same(t, n, join(t, n, "d", 10), api.ErrNone)
	same(t, n, join(t, n, "b", 17), api.ErrThere)
	checkOk(t, "Part", n.Part("b", 13))
	same(t, n, join(t, n, "b", 17), api.ErrThere)
	checkJoin(t, n, "c", 10, nil, api.OK)
	same(t, n, join(t, n, "b", 13), api.ErrFull)
}

// Who subscribes to a peer that is suspected already is notified at once, and
// only that one.
func TestJoinSuspected(t *testing.T) {
	c := usual()
	c.Least = 1
	n := start(t, c)
	watch(t, n, 10, "b", "c")
	checkJoin(t, n, "c", 2, nil, api.OK)
	checkTick(t, n, 13, []int{1, 2}, []api.Note{{Id: "c", Theta: 2, Suspect: true}})
	checkJoin(t, n, "b", 4, nil, api.OK)
	checkJoin(t, n, "b", 3, []api.Note{{Id: "b", Theta: 3, Suspect: true}}, api.OK)
	checkJoin(t, n, "b", 1, []api.Note{{Id: "b", Theta: 1, Suspect: true}}, api.OK)
	want := []api.Sub{{Id: "c", Theta: 2, On: true}, {Id: "b", Theta: 4}, {Id: "b", Theta: 3, On: true}, {Id: "b", Theta: 1, On: true}}
	if !slices.Equal(n.Subs(), want) {
		t.Errorf("the subscriptions are %v; want %v", n.Subs(), want)
	}
	checkTick(t, n, 1, nil, []api.Note{{Id: "b", Theta: 4, Suspect: true}})
	checkTick(t, n, 1, []int{3}, nil)
}

func TestPart(t *testing.T) {
	n := start(t, usual())
	watch(t, n, 10, "b", "c")
	all := []api.Sub{{Id: "c", Theta: 9}, {Id: "b", Theta: 2}, {Id: "c", Theta: 2}, {Id: "b", Theta: 9}}
	for _, s := range all {
		checkJoin(t, n, s.Id, s.Theta, nil, api.OK)
	}
	for _, s := range []api.Sub{{Id: "b", Theta: 3}, {Id: "c", Theta: 8}, {Id: "d", Theta: 9}, {Id: "m", Theta: 9}, {Id: "", Theta: 0}} {
		same(t, n, func() api.Errno { return n.Part(s.Id, s.Theta) }, api.ErrNone)
	}
	for _, theta := range badThetas() {
		same(t, n, func() api.Errno { return n.Part("b", theta) }, api.ErrNone)
	}
	for _, id := range badIds() {
		same(t, n, func() api.Errno { return n.Part(id, 9) }, api.ErrNone)
	}
	for at, s := range all {
		left := *n
		checkOk(t, "Part", left.Part(s.Id, s.Theta))
		if want := slices.Delete(slices.Clone(all), at, at+1); !slices.Equal(left.Subs(), want) {
			t.Errorf("the subscriptions are %v; want %v", left.Subs(), want)
		}
		same(t, &left, func() api.Errno { return left.Part(s.Id, s.Theta) }, api.ErrNone)
		// It comes last when it is there again.
		checkJoin(t, &left, s.Id, s.Theta, nil, api.OK)
		if subs := left.Subs(); subs[3] != s {
			t.Errorf("the subscriptions are %v; want %v last", subs, s)
		}
	}
}

// Who has left a suspected peer and returns is notified again.
func TestPartAndJoin(t *testing.T) {
	n := start(t, usual())
	watch(t, n, 10, "b")
	checkJoin(t, n, "b", 1, nil, api.OK)
	suspected := []api.Note{{Id: "b", Theta: 1, Suspect: true}}
	checkTick(t, n, 20, from(1, 4), suspected)
	checkOk(t, "Part", n.Part("b", 1))
	checkTick(t, n, 1, nil, nil)
	checkJoin(t, n, "b", 1, suspected, api.OK)
}

// A subscriber is notified once when the level reaches the threshold, and once
// when it is below again, in the order of the subscriptions.
func TestNotes(t *testing.T) {
	c := usual()
	c.Least = 1
	n := start(t, c)
	watch(t, n, 10, "a", "b")
	for _, s := range []api.Sub{{Id: "b", Theta: 3}, {Id: "a", Theta: 4}, {Id: "b", Theta: 1}, {Id: "a", Theta: 3}, {Id: "b", Theta: 9}} {
		checkJoin(t, n, s.Id, s.Theta, nil, api.OK)
	}
	checkTick(t, n, 10, []int{1, 2}, nil)
	checkTick(t, n, 1, nil, []api.Note{{Id: "b", Theta: 1, Suspect: true}})
	checkTick(t, n, 1, nil, nil)
	checkTick(t, n, 1, nil, []api.Note{{Id: "b", Theta: 3, Suspect: true}, {Id: "a", Theta: 3, Suspect: true}})
	checkTick(t, n, 1, nil, []api.Note{{Id: "a", Theta: 4, Suspect: true}})
	checkTick(t, n, 1, []int{3}, nil)
	checkHear(t, n, message(t, "b", 0, 1), []api.Note{{Id: "b", Theta: 3}, {Id: "b", Theta: 1}}, api.OK)
	checkHear(t, n, message(t, "b", 0, 1), nil, api.ErrThere)
	checkHear(t, n, message(t, "b", 0, 2), nil, api.OK)
	checkHear(t, n, message(t, "a", 0, 1), []api.Note{{Id: "a", Theta: 4}, {Id: "a", Theta: 3}}, api.OK)
	want := []api.Sub{{Id: "b", Theta: 3}, {Id: "a", Theta: 4}, {Id: "b", Theta: 1}, {Id: "a", Theta: 3}, {Id: "b", Theta: 9}}
	if !slices.Equal(n.Subs(), want) {
		t.Errorf("the subscriptions are %v; want %v", n.Subs(), want)
	}
}

// A node that stops is suspected at every threshold in the end, and one whose
// heartbeats arrive on time at none.
func TestStops(t *testing.T) {
	for theta := 1; theta <= 60; theta++ {
		n := start(t, api.Config{Id: "m", Every: greatest, Cap: 1, Least: 1})
		watch(t, n, 0, "b")
		checkJoin(t, n, "b", theta, nil, api.OK)
		tick(t, n, latest/2)
		tick(t, n, latest/2-1)
		checkLevel(t, n, "b", 59, api.OK)
		tick(t, n, 1)
		checkLevel(t, n, "b", 60, api.OK)
		if !n.Subs()[0].On {
			t.Errorf("no suspicion at %d", theta)
		}
	}
	n := start(t, usual())
	watch(t, n, 30, "b")
	checkJoin(t, n, "b", 1, nil, api.OK)
	for seq := range 200 {
		checkTick(t, n, 30, from(6*seq+1, 6*seq+6), nil)
		checkHear(t, n, message(t, "b", 0, seq+1), nil, api.OK)
		checkLevel(t, n, "b", 0, api.OK)
	}
	_, notes, _ := n.Tick(100)
	if !slices.Equal(notes, []api.Note{{Id: "b", Theta: 1, Suspect: true}}) {
		t.Errorf("the notifications are %v", notes)
	}
}

// model is a naive node. It counts ticks one by one and computes all levels
// with math/big, as the document defines them.
type model struct {
	c     api.Config
	state state
	peers map[string]api.Peer
}

func (m *model) level(id string) int {
	p := m.peers[id]
	since := m.state.now - p.Last
	count, sum, sq := int64(len(p.Win.Vals)), int64(0), int64(0)
	for _, v := range p.Win.Vals {
		sum, sq = sum+int64(v), sq+int64(v)*int64(v)
	}
	above := count*int64(since) - sum
	if above <= 0 {
		return 0
	}
	scale := new(big.Int).Sub(new(big.Int).Mul(big.NewInt(count), big.NewInt(sq)), new(big.Int).Mul(big.NewInt(sum), big.NewInt(sum)))
	if floor := big.NewInt(count * int64(m.c.Least)); scale.Cmp(floor.Mul(floor, floor)) < 0 {
		scale = floor
	}
	reach := big.NewInt(above)
	reach.Add(reach.Mul(reach, reach), scale)
	level := 0
	for new(big.Int).Lsh(scale, uint(level+1)).Cmp(reach) <= 0 {
		level++
	}
	return level
}

func (m *model) notes() []api.Note {
	notes := []api.Note{}
	for i := range m.state.subs {
		s := &m.state.subs[i]
		if on := m.level(s.Id) >= s.Theta; on != s.On {
			s.On = on
			notes = append(notes, api.Note{Id: s.Id, Theta: s.Theta, Suspect: on})
		}
	}
	return notes
}

func (m *model) tick(ticks int) ([]string, []api.Note, api.Errno) {
	if ticks < 1 {
		return nil, nil, api.ErrArg
	}
	if ticks/m.c.Every >= 64 {
		return nil, nil, api.ErrLarge
	}
	seqs := []int{}
	for range ticks {
		m.state.now++
		if m.state.now%m.c.Every == 0 {
			m.state.seq++
			seqs = append(seqs, m.state.seq)
		}
	}
	return encoded(m.c, seqs), m.notes(), api.OK
}

func (m *model) hear(b api.Beat) ([]api.Note, api.Errno) {
	p, there := m.peers[b.Id]
	if !there {
		m.state.drops++
		return nil, api.ErrNone
	}
	if b.Inc < p.Gate.Inc || b.Inc == p.Gate.Inc && b.Seq <= p.Gate.Seq {
		m.state.drops++
		p.Gate.Drops++
		m.peers[b.Id] = p
		return nil, api.ErrThere
	}
	all := append(slices.Clone(p.Win.Vals), min(m.state.now-p.Last, greatest))
	p.Win.Vals = all[max(0, len(all)-p.Win.Cap):]
	p.Gate.Inc, p.Gate.Seq, p.Last = b.Inc, b.Seq, m.state.now
	m.peers[b.Id] = p
	return m.notes(), api.OK
}

func (m *model) watch(id string, every int) api.Errno {
	if _, there := m.peers[id]; there || id == m.c.Id {
		return api.ErrThere
	}
	if len(m.peers) == 6 {
		return api.ErrFull
	}
	m.peers[id] = api.Peer{Id: id, Win: api.Window{Cap: m.c.Cap, Vals: []int{every}}, Last: m.state.now}
	return api.OK
}

func (m *model) leave(id string) api.Errno {
	if _, there := m.peers[id]; !there {
		return api.ErrNone
	}
	delete(m.peers, id)
	kept := []api.Sub{}
	for _, s := range m.state.subs {
		if s.Id != id {
			kept = append(kept, s)
		}
	}
	m.state.subs = kept
	return api.OK
}

// place returns the place of a subscription, or -1 if there is none.
func (m *model) place(id string, theta int) int {
	for i, s := range m.state.subs {
		if s.Id == id && s.Theta == theta {
			return i
		}
	}
	return -1
}

func (m *model) join(id string, theta int) ([]api.Note, api.Errno) {
	if _, there := m.peers[id]; !there {
		return nil, api.ErrNone
	}
	if m.place(id, theta) >= 0 {
		return nil, api.ErrThere
	}
	if len(m.state.subs) == 8 {
		return nil, api.ErrFull
	}
	m.state.subs = append(m.state.subs, api.Sub{Id: id, Theta: theta})
	return m.notes(), api.OK
}

func (m *model) part(id string, theta int) api.Errno {
	at := m.place(id, theta)
	if at < 0 {
		return api.ErrNone
	}
	m.state.subs = slices.Delete(m.state.subs, at, at+1)
	return api.OK
}

// seen is the state of the model, with its peers in order.
func (m *model) seen() state {
	s := m.state
	s.peers, s.subs = []api.Peer{}, append([]api.Sub{}, s.subs...)
	for _, id := range slices.Sorted(maps.Keys(m.peers)) {
		s.peers = append(s.peers, m.peers[id])
	}
	return s
}

// both are a node and its model. What both return is compared.
type both struct {
	node  *Node
	model *model
}

// answer is all that a call can return.
type answer struct {
	sent  []string
	notes []api.Note
	errno api.Errno
}

func (a answer) equal(b answer) bool {
	return slices.Equal(a.sent, b.sent) && slices.Equal(a.notes, b.notes) && a.errno == b.errno
}

// step makes one call of both.
func (b both) step(t *testing.T, source *rand.Rand, id string) (got, want answer) {
	theta := 1 + source.IntN(1+source.IntN(20))
	switch source.IntN(12) {
	case 0, 1:
		every := source.IntN(3 * b.model.c.Every)
		got.errno, want.errno = b.node.Watch(id, every), b.model.watch(id, every)
	case 2, 3:
		got.notes, got.errno = b.node.Join(id, theta)
		want.notes, want.errno = b.model.join(id, theta)
	case 4:
		if source.IntN(4) == 0 {
			got.errno, want.errno = b.node.Leave(id), b.model.leave(id)
		} else {
			got.errno, want.errno = b.node.Part(id, theta), b.model.part(id, theta)
		}
	case 5, 6, 7:
		ticks := source.IntN(1 + b.model.c.Every*(1<<source.IntN(7)))
		got.sent, got.notes, got.errno = b.node.Tick(ticks)
		want.sent, want.notes, want.errno = b.model.tick(ticks)
	default:
		heard := api.Beat{Id: id, Inc: source.IntN(3), Seq: 1 + source.IntN(40)}
		got.notes, got.errno = b.node.Hear(message(t, heard.Id, heard.Inc, heard.Seq))
		want.notes, want.errno = b.model.hear(heard)
	}
	return got, want
}

// Long rows of calls give what the naive model gives.
func TestModel(t *testing.T) {
	source := rand.New(rand.NewPCG(19, 2))
	ids := []string{"a", "aa", "ab", "b", "ba", "c", "cc", "zzzzzzzz"}
	for range 300 {
		c := api.Config{Id: "b", Inc: source.IntN(9), Every: 1 + source.IntN(60), Cap: 1 + source.IntN(5), Least: 1 + source.IntN(1+source.IntN(40))}
		b := both{start(t, c), &model{c: c, peers: map[string]api.Peer{}}}
		for range 200 {
			id := ids[source.IntN(len(ids))]
			got, want := b.step(t, source, id)
			if !got.equal(want) {
				t.Fatalf("%v, %q at %v: got %v; want %v", c, id, b.model.state, got, want)
			}
			checkState(t, b.node, b.model.seen())
			for _, p := range b.node.Peers() {
				checkLevel(t, b.node, p.Id, b.model.level(p.Id), api.OK)
			}
		}
	}
}

// busy is a node with peers and subscriptions, two of which are on.
func busy(t *testing.T) *Node {
	t.Helper()
	n := start(t, usual())
	watch(t, n, 10, "a", "b", "c")
	for _, s := range []api.Sub{{Id: "b", Theta: 1}, {Id: "c", Theta: 60}, {Id: "a", Theta: 1}} {
		checkJoin(t, n, s.Id, s.Theta, nil, api.OK)
	}
	tick(t, n, 20)
	checkHear(t, n, message(t, "c", 0, 1), nil, api.OK)
	checkHear(t, n, message(t, "c", 0, 1), nil, api.ErrThere)
	return n
}

// spoil overwrites all memory of a slice, its spare capacity included.
func spoil[T any](l []T, with T) {
	l = l[:cap(l)]
	for i := range l {
		l[i] = with
	}
}

// What is returned shares no memory with the node, nor with other results.
func TestResultsAreCopies(t *testing.T) {
	n := busy(t)
	before := stateOf(n)
	peers, more := n.Peers(), n.Peers()
	for _, p := range peers {
		spoil(p.Win.Vals, -7)
	}
	spoil(peers, api.Peer{Id: "spoilt"})
	subs, others := n.Subs(), n.Subs()
	spoil(subs, api.Sub{Id: "spoilt"})
	checkState(t, n, before)
	if !reflect.DeepEqual(more, before.peers) || !slices.Equal(others, before.subs) {
		t.Errorf("other results became %v, %v", more, others)
	}
	sent, notes, _ := n.Tick(9)
	spoil(sent, "spoilt")
	spoil(notes, api.Note{Id: "spoilt"})
	again, errno := n.Hear(message(t, "b", 0, 1))
	checkOk(t, "Hear", errno)
	spoil(again, api.Note{Id: "spoilt"})
	suspected, errno := n.Join("a", 2)
	checkOk(t, "Join", errno)
	spoil(suspected, api.Note{Id: "spoilt"})
	want := []api.Sub{{Id: "b", Theta: 1}, {Id: "c", Theta: 60}, {Id: "a", Theta: 1, On: true}, {Id: "a", Theta: 2, On: true}}
	if !slices.Equal(n.Subs(), want) {
		t.Errorf("the subscriptions are %v; want %v", n.Subs(), want)
	}
}

// Results that were returned before stay as they are while the node goes on.
func TestResultsStay(t *testing.T) {
	n := busy(t)
	before, peers, subs := stateOf(n), n.Peers(), n.Subs()
	checkHear(t, n, message(t, "b", 0, 1), []api.Note{{Id: "b", Theta: 1}}, api.OK)
	tick(t, n, 100)
	checkHear(t, n, message(t, "b", 0, 1), nil, api.ErrThere)
	checkOk(t, "Leave", n.Leave("a"))
	checkOk(t, "Part", n.Part("b", 1))
	if !reflect.DeepEqual(peers, before.peers) || !slices.Equal(subs, before.subs) {
		t.Errorf("the results became %v, %v", peers, subs)
	}
}

// A copy of a node and the node itself go on independently.
func TestCopyOfNode(t *testing.T) {
	calls := []func(n *Node){
		func(n *Node) { n.Tick(100) },
		func(n *Node) { n.Hear(message(t, "b", 0, 1)) },
		func(n *Node) { n.Hear(message(t, "c", 0, 1)) },
		func(n *Node) { n.Watch("aa", 3) },
		func(n *Node) { n.Leave("a") },
		func(n *Node) { n.Join("b", 2) },
		func(n *Node) { n.Part("b", 1) },
	}
	for i, first := range calls {
		n := busy(t)
		copied, before := *n, stateOf(n)
		first(n)
		checkState(t, &copied, before)
		if reflect.DeepEqual(stateOf(n), before) {
			t.Errorf("call %d changed nothing", i)
		}
		after := stateOf(n)
		for _, second := range calls {
			second(&copied)
			checkState(t, n, after)
		}
	}
}

// The methods of a Node that New did not make return as well.
func TestZeroNode(t *testing.T) {
	n := &Node{}
	for _, ticks := range []int{math.MinInt, -1, 0, latest + 1, math.MaxInt} {
		same(t, n, func() api.Errno { return tickErrno(t, n, ticks) }, api.ErrArg)
	}
	for _, ticks := range []int{1, 64, latest} {
		same(t, n, func() api.Errno { return tickErrno(t, n, ticks) }, api.ErrLarge)
	}
	same(t, n, func() api.Errno { return n.Watch("b", 10) }, api.ErrArg)
	same(t, n, func() api.Errno { return n.Leave("b") }, api.ErrNone)
	same(t, n, join(t, n, "b", 1), api.ErrNone)
	same(t, n, func() api.Errno { return n.Part("b", 1) }, api.ErrNone)
	checkLevel(t, n, "b", 0, api.ErrNone)
	checkHear(t, n, message(t, "b", 0, 1), nil, api.ErrNone)
	checkHear(t, n, "", nil, api.ErrShort)
	checkState(t, n, state{0, 0, 2, []api.Peer{}, []api.Sub{}})
}
