package gate

import (
	"math"
	"math/rand/v2"
	"testing"

	"heartwood/api"
)

const (
	last  = 1<<31 - 1 // incarnation, or sequence number
	drops = 1 << 30   // the most that are counted
)

// strangers are neither incarnations nor sequence numbers.
func strangers() []int {
	return []int{math.MinInt, -last, -2, -1, last + 1, last + 2, 1<<32 + 1, math.MaxInt}
}

// badDrops are numbers that Drops can't be.
func badDrops() []int {
	return []int{math.MinInt, -drops, -2, -1, drops + 1, drops + 2, 1 << 31, 1<<32 + 1, math.MaxInt}
}

func checkTake(t *testing.T, g api.Gate, inc, seq int, want api.Gate, wantOk bool, wantErrno api.Errno) {
	t.Helper()
	got, ok, errno := Take(g, inc, seq)
	if got != want || ok != wantOk || errno != wantErrno {
		t.Errorf("Take %v, %d, %d: got %v, %t, %d; want %v, %t, %d",
			g, inc, seq, got, ok, errno, want, wantOk, wantErrno)
	}
}

func TestCheck(t *testing.T) {
	for _, g := range []api.Gate{
		{},
		{Seq: 1},
		{Seq: last},
		{Inc: 1, Seq: 1},
		{Inc: last, Seq: 1},
		{Inc: last, Seq: last},
		{Drops: 1},
		{Drops: drops},
		{Inc: last, Seq: last, Drops: drops},
		// Inc and Seq may exceed the bound of Drops.
		{Inc: drops + 1, Seq: drops + 1, Drops: drops - 1},
	} {
		if errno := Check(g); errno != api.OK {
			t.Errorf("Check %v: %d; want OK", g, errno)
		}
	}
}

// badGates are no gates, each for one reason or for several.
func badGates() []api.Gate {
	bad := []api.Gate{{Inc: 1}, {Inc: 7, Drops: 3}, {Inc: last}, {Inc: last, Drops: drops}, {Inc: -1, Seq: -1, Drops: -1}}
	for _, n := range strangers() {
		bad = append(bad, api.Gate{Inc: n, Seq: 1}, api.Gate{Inc: n}, api.Gate{Inc: 1, Seq: n}, api.Gate{Seq: n})
	}
	for _, n := range badDrops() {
		bad = append(bad, api.Gate{Drops: n}, api.Gate{Inc: 1, Seq: 1, Drops: n}, api.Gate{Inc: 1, Drops: n})
	}
	return bad
}

func TestCheckErrors(t *testing.T) {
	for _, g := range badGates() {
		if errno := Check(g); errno != api.ErrArg {
			t.Errorf("Check %v: %d; want ErrArg", g, errno)
		}
	}
}

func TestTakeAccepts(t *testing.T) {
	for _, r := range []struct {
		g        api.Gate
		inc, seq int
	}{
		{api.Gate{}, 0, 1},
		{api.Gate{}, 0, last},
		{api.Gate{}, 1, 1},
		{api.Gate{}, last, last},
		{api.Gate{Seq: 1}, 0, 2},
		{api.Gate{Seq: 1}, 0, 9},
		{api.Gate{Inc: 3, Seq: 5}, 3, 6},
		// A greater incarnation counts, whatever the sequence number.
		{api.Gate{Inc: 3, Seq: 5}, 4, 1},
		{api.Gate{Inc: 3, Seq: 5}, 4, 5},
		{api.Gate{Inc: 3, Seq: 5}, 4, 6},
		{api.Gate{Inc: 3, Seq: last}, 4, 1},
		{api.Gate{Inc: last - 1, Seq: last}, last, 1},
		{api.Gate{Inc: last, Seq: last - 1}, last, last},
	} {
		for _, n := range []int{0, 1, 7, drops - 1, drops} {
			g := r.g
			g.Drops = n
			checkTake(t, g, r.inc, r.seq, api.Gate{Inc: r.inc, Seq: r.seq, Drops: n}, true, api.OK)
		}
	}
}

func TestTakeRejects(t *testing.T) {
	for _, r := range []struct {
		g        api.Gate
		inc, seq int
	}{
		{api.Gate{Seq: 1}, 0, 1},
		{api.Gate{Seq: 5}, 0, 4},
		{api.Gate{Seq: 5}, 0, 1},
		{api.Gate{Inc: 3, Seq: 5}, 3, 5},
		{api.Gate{Inc: 3, Seq: 5}, 3, 4},
		{api.Gate{Inc: 3, Seq: 5}, 3, 1},
		// A smaller incarnation does not count, whatever the sequence number.
		{api.Gate{Inc: 3, Seq: 5}, 2, 6},
		{api.Gate{Inc: 3, Seq: 5}, 2, last},
		{api.Gate{Inc: 3, Seq: 5}, 0, 5},
		{api.Gate{Inc: 3, Seq: 5}, 0, 1},
		{api.Gate{Inc: last, Seq: last}, last, last},
		{api.Gate{Inc: last, Seq: 1}, last - 1, last},
	} {
		for _, n := range []struct{ before, after int }{
			{0, 1}, {1, 2}, {7, 8}, {drops - 2, drops - 1}, {drops - 1, drops}, {drops, drops},
		} {
			before, after := r.g, r.g
			before.Drops, after.Drops = n.before, n.after
			checkTake(t, before, r.inc, r.seq, after, false, api.OK)
		}
	}
}

func TestTakeErrors(t *testing.T) {
	for _, g := range badGates() {
		checkTake(t, g, 0, 1, api.Gate{}, false, api.ErrArg)
		checkTake(t, g, last, last, api.Gate{}, false, api.ErrArg)
		checkTake(t, g, -1, 0, api.Gate{}, false, api.ErrArg)
	}
	for _, g := range []api.Gate{{}, {Seq: 1}, {Inc: 3, Seq: 5, Drops: 7}, {Inc: last, Seq: last, Drops: drops}} {
		for _, n := range strangers() {
			checkTake(t, g, n, 1, api.Gate{}, false, api.ErrArg)
			checkTake(t, g, n, last, api.Gate{}, false, api.ErrArg)
			checkTake(t, g, 0, n, api.Gate{}, false, api.ErrArg)
			checkTake(t, g, last, n, api.Gate{}, false, api.ErrArg)
			checkTake(t, g, n, n, api.Gate{}, false, api.ErrArg)
		}
		// There is no heartbeat 0, not even in a new incarnation.
		for _, inc := range []int{0, 1, 3, 4, last} {
			checkTake(t, g, inc, 0, api.Gate{}, false, api.ErrArg)
		}
	}
}

// However pairs repeat and whatever their order is, a pair is accepted if it
// is greater than each pair before it, and so no pair twice.
func TestTakeOnce(t *testing.T) {
	source := rand.New(rand.NewPCG(13, 1))
	for range 300 {
		g, seen, rejected := api.Gate{}, [][2]int{}, 0
		for range 60 {
			pair := [2]int{source.IntN(4), 1 + source.IntN(12)}
			want := true
			for _, s := range seen {
				if s == pair || s[0] > pair[0] || s[0] == pair[0] && s[1] > pair[1] {
					want = false
				}
			}
			seen = append(seen, pair)
			next, ok, errno := Take(g, pair[0], pair[1])
			if ok != want || errno != api.OK {
				t.Fatalf("Take %v, %v: %t, %d; want %t", g, pair, ok, errno, want)
			}
			if !ok {
				rejected++
			}
			if Check(next) != api.OK || next.Drops != rejected {
				t.Fatalf("Take %v, %v: the gate is %v after %d rejections", g, pair, next, rejected)
			}
			g = next
		}
	}
}
