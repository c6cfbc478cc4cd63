package total_test

import (
	"math"
	"slices"
	"testing"

	"nightwatch/api"
	"nightwatch/conf"
	"nightwatch/local"
	"nightwatch/total"
)

// Words that are no status of an entity, most of them nearly one.
var noStatus = []string{"", "stopped", "what", "EXPIRED", "Failed", " expired", "expired ", "failed\n", "expire", "failedexpired", "\xff"}

func made(t *testing.T, delay int) *total.Total {
	t.Helper()
	x, err := total.New(delay)
	if err != nil || x == nil {
		t.Fatal(delay, err)
	}
	is(t, x, "ok")
	return x
}

func is(t *testing.T, x *total.Total, status string) {
	t.Helper()
	if got := x.Status(); got != status {
		t.Errorf("Status: got %q, want %q", got, status)
	}
	if got := x.May(); got != (status != "stopped") {
		t.Errorf("May: got %t in %q", got, status)
	}
}

func ends(t *testing.T, x *total.Total, want string, l ...string) {
	t.Helper()
	if got := x.End(l); got != want {
		t.Errorf("End of %q: got %q, want %q", l, got, want)
	}
	is(t, x, want)
}

// rows of so many words out of these.
func rows(words []string, length int) [][]string {
	all := [][]string{nil}
	for range length {
		var longer [][]string
		for _, row := range all {
			for _, w := range words {
				longer = append(longer, append(slices.Clone(row), w))
			}
		}
		all = longer
	}
	return all
}

// count of a word in a list.
func count(l []string, word string) int {
	n := 0
	for _, w := range l {
		if w == word {
			n++
		}
	}
	return n
}

// P90

func TestDelays(t *testing.T) {
	for delay := range api.MaxDelay + 1 {
		made(t, delay)
	}
	for _, delay := range []int{-1, -2, api.MaxDelay + 1, api.MaxDelay + 2, math.MinInt, math.MaxInt} {
		if x, err := total.New(delay); x != nil || err != api.ErrBound {
			t.Errorf("delay %d: got %v, %v", delay, x, err)
		}
	}
}

func TestOfOneEntity(t *testing.T) {
	x := made(t, 1)
	ends(t, x, "ok", "ok")
	ends(t, x, "ok", "idle")
	ends(t, x, "failed", "failed")
	ends(t, x, "failed", "failed")
	ends(t, x, "ok", "idle")
	ends(t, x, "failed", "failed")
	ends(t, x, "expired", "expired")
	ends(t, x, "stopped", "expired")
}

func TestOfNone(t *testing.T) {
	for _, l := range [][]string{nil, {}} {
		x := made(t, 1)
		ends(t, x, "ok", l...)
		ends(t, x, "failed", "failed")
		ends(t, x, "ok", l...)
		ends(t, x, "expired", "expired")
		ends(t, x, "stopped", l...)
		ends(t, x, "stopped", l...)
	}
}

// Each list of up to four statuses, and of one word that is none, from ok and from
// failed: what was failed does not stay so by itself.
func TestLists(t *testing.T) {
	for _, ahead := range []string{"ok", "failed"} {
		for length := range 5 {
			for _, l := range rows([]string{"idle", "ok", "failed", "expired", "stopped"}, length) {
				want := "ok"
				if count(l, "failed") > 0 {
					want = "failed"
				}
				if count(l, "expired") > 0 {
					want = "expired"
				}
				x := made(t, 3)
				ends(t, x, ahead, ahead)
				ends(t, x, want, l...)
			}
		}
	}
}

func TestWordsThatAreNoStatus(t *testing.T) {
	for _, w := range noStatus {
		x := made(t, 1)
		ends(t, x, "ok", w)
		ends(t, x, "ok", "idle", w, "ok", w)
		ends(t, x, "failed", w, "failed", w)
		ends(t, x, "ok", w)
		ends(t, x, "expired", w, "failed", w, "expired", w)
		ends(t, x, "stopped", w)
		ends(t, x, "stopped", w)
	}
	ends(t, made(t, 0), "ok", noStatus...)
}

// A list longer than there may be entities is looked at to its end.
func TestLongList(t *testing.T) {
	long := slices.Repeat([]string{"ok"}, 10000)
	x := made(t, 2)
	ends(t, x, "ok", long...)
	ends(t, x, "failed", append(slices.Clone(long), "failed")...)
	ends(t, x, "expired", append(append([]string{"failed"}, long...), "expired")...)
}

func TestWithoutDelay(t *testing.T) {
	x := made(t, 0)
	for range 50 {
		ends(t, x, "ok", "ok")
		ends(t, x, "failed", "failed")
	}
	ends(t, x, "stopped", "failed", "expired", "ok")
	ends(t, x, "stopped", "ok")
}

// Cycles that failed ahead of it take nothing of the delay, nor do well ones.
func TestDelayBeginsAtExpired(t *testing.T) {
	for delay := range api.MaxDelay + 1 {
		x := made(t, delay)
		for range 2 * api.MaxDelay {
			ends(t, x, "failed", "failed")
			ends(t, x, "ok")
		}
		for range delay {
			ends(t, x, "expired", "expired")
		}
		ends(t, x, "stopped", "expired")
	}
}

func TestStoppedStays(t *testing.T) {
	for delay := range 3 {
		x := made(t, delay)
		for range delay {
			ends(t, x, "expired", "expired")
		}
		ends(t, x, "stopped", "expired")
		for range 3 * api.MaxDelay {
			ends(t, x, "stopped")
			ends(t, x, "stopped", "ok", "idle")
			ends(t, x, "stopped", "failed")
			ends(t, x, "stopped", "expired")
			ends(t, x, "stopped", "stopped", "what")
		}
	}
}

// Asking is no cycle.
func TestStatusAndMayChangeNothing(t *testing.T) {
	x := made(t, 2)
	for _, want := range []string{"failed", "expired", "expired", "stopped"} {
		ends(t, x, want, want)
		for range 5 {
			is(t, x, want)
		}
	}
}

// The README's two motors, with the delay of its config.
func TestMotors(t *testing.T) {
	c, err := conf.Read("window 3 5\ncycle 2\ndelay 1\nentity motor 1\npoint turn\ncount turn 1 3\nentity spare 0\n")
	if err != nil {
		t.Fatal(err)
	}
	x := made(t, c.Delay)
	a, b := local.New(c.Entities[0]), local.New(c.Entities[1])
	if err := a.Begin(); err != nil {
		t.Fatal(err)
	}
	for _, want := range []string{"ok", "failed", "expired", "stopped"} {
		a.End()
		b.End()
		ends(t, x, want, a.Status(), b.Status())
	}
}

// P3, P4

// What lies behind the list's length is not looked at, and the list stays.
func TestListIsOnlyRead(t *testing.T) {
	memory := []string{"ok", "failed", "expired"}
	x := made(t, 1)
	ends(t, x, "ok", memory[:0]...)
	ends(t, x, "ok", memory[:1]...)
	ends(t, x, "failed", memory[:2]...)
	ends(t, x, "expired", memory...)
	ends(t, x, "stopped", memory...)
	if !slices.Equal(memory, []string{"ok", "failed", "expired"}) {
		t.Error("the list is changed:", memory)
	}
}

func TestLaterChangeOfTheList(t *testing.T) {
	l := []string{"failed"}
	x := made(t, 1)
	ends(t, x, "failed", l...)
	l[0] = "expired"
	is(t, x, "failed")
	ends(t, x, "ok", "ok")
}

func TestTotalsShareNothing(t *testing.T) {
	a, b := made(t, 1), made(t, 1)
	ends(t, a, "expired", "expired")
	is(t, b, "ok")
	ends(t, a, "stopped")
	ends(t, b, "failed", "failed")
	ends(t, b, "expired", "expired")
	is(t, made(t, 1), "ok")
}

// P91

// statusOf a total behind these cycles, each told by its worst status, worked out
// from the first one that was expired.
func statusOf(delay int, cycles []string) string {
	first := slices.Index(cycles, "expired")
	switch {
	case first < 0:
		return cycles[len(cycles)-1]
	case len(cycles)-1 < first+delay:
		return "expired"
	}
	return "stopped"
}

// Each row of seven cycles: nothing that is told behind expired, not even expired
// once more, moves the cycle that stops it.
func TestStoppedComesBehindExpired(t *testing.T) {
	for delay := range 5 {
		for _, row := range rows([]string{"ok", "failed", "expired"}, 7) {
			x := made(t, delay)
			for i, w := range row {
				ends(t, x, statusOf(delay, row[:i+1]), w)
			}
			if t.Failed() {
				t.Fatal(delay, row)
			}
		}
	}
}

// Each delay there is, with each status told behind it: just so many cycles later.
func TestDelayCyclesLater(t *testing.T) {
	for delay := range api.MaxDelay + 1 {
		for _, w := range append([]string{"idle", "ok", "failed", "expired"}, noStatus...) {
			x := made(t, delay)
			cycles := 0
			for got := x.End([]string{"expired"}); got != "stopped" && cycles <= delay; cycles++ {
				if got != "expired" || !x.May() {
					t.Errorf("delay %d, %d cycles later: got %q, %t", delay, cycles, got, x.May())
				}
				got = x.End([]string{w})
			}
			if cycles != delay {
				t.Errorf("delay %d, then %q: stopped %d cycles later", delay, w, cycles)
			}
			is(t, x, "stopped")
		}
	}
}
