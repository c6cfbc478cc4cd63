package dog_test

import (
	"math"
	"testing"

	"nightwatch/api"
	"nightwatch/dog"
)

func fresh(t *testing.T, closed, open int) *dog.Dog {
	t.Helper()
	d, err := dog.New(closed, open)
	if err != nil || d == nil {
		t.Fatalf("New(%d, %d): %v", closed, open, err)
	}
	return d
}

// The errors of this package are bare: == and not errors.Is.
func fails(t *testing.T, err, want error) {
	t.Helper()
	if err != want {
		t.Errorf("got error %v, want %v", err, want)
	}
}

// look is all that a dog tells.
type look struct {
	now, kicks  int
	open, reset bool
}

func seen(d *dog.Dog) look { return look{d.Now(), d.Kicks(), d.Open(), d.Reset()} }

func shows(t *testing.T, d *dog.Dog, want look) {
	t.Helper()
	if got := seen(d); got != want {
		t.Errorf("got %+v, want %+v", got, want)
	}
}

func ticks(t *testing.T, d *dog.Dog, n int) {
	t.Helper()
	for range n {
		fails(t, d.Tick(), nil)
	}
}

// The least and the greatest windows, and some between.
var windows = [][2]int{
	{0, 1}, {0, 2}, {1, 1}, {1, 2}, {2, 1}, {3, 5}, {0, api.MaxWindow}, {api.MaxWindow, 1}, {api.MaxWindow, api.MaxWindow},
}

// P30

func TestNewIsAtTickZero(t *testing.T) {
	for _, w := range windows {
		shows(t, fresh(t, w[0], w[1]), look{})
	}
}

func TestNewBound(t *testing.T) {
	for _, w := range [][2]int{
		{-1, 1}, {api.MaxWindow + 1, 1}, {0, 0}, {0, -1}, {0, api.MaxWindow + 1}, {api.MaxWindow, api.MaxWindow + 1}, {-1, 0},
		{math.MinInt, 1}, {math.MaxInt, 1}, {0, math.MinInt}, {0, math.MaxInt}, {math.MaxInt, math.MaxInt},
	} {
		d, err := dog.New(w[0], w[1])
		fails(t, err, api.ErrBound)
		if d != nil {
			t.Errorf("New(%d, %d) answers a dog with its error", w[0], w[1])
		}
	}
}

func TestTicksWithoutAKick(t *testing.T) {
	for _, w := range windows {
		d := fresh(t, w[0], w[1])
		for n := 1; n <= w[0]+w[1]; n++ {
			fails(t, d.Tick(), nil)
			shows(t, d, look{now: n, open: n > w[0]})
		}
		end := look{now: w[0] + w[1] + 1, reset: true}
		fails(t, d.Tick(), nil)
		shows(t, d, end)
		for range 3 {
			fails(t, d.Tick(), api.ErrReset)
			shows(t, d, end)
		}
	}
}

func TestTicksAreCountedFromTheLastKick(t *testing.T) {
	for _, w := range windows {
		d := fresh(t, w[0], w[1])
		ticks(t, d, w[0]+1)
		fails(t, d.Kick(), nil)
		ticks(t, d, w[0]+w[1])
		shows(t, d, look{now: 2*w[0] + w[1] + 1, kicks: 1, open: true})
		ticks(t, d, 1)
		shows(t, d, look{now: 2*w[0] + w[1] + 2, kicks: 1, reset: true})
	}
}

// P31

func TestKickAtEachTick(t *testing.T) {
	for _, w := range windows {
		for n := range w[0] + w[1] + 1 {
			d := fresh(t, w[0], w[1])
			ticks(t, d, n)
			if n > w[0] {
				fails(t, d.Kick(), nil)
				shows(t, d, look{now: n, kicks: 1})
			} else {
				fails(t, d.Kick(), api.ErrReset)
				shows(t, d, look{now: n, reset: true})
			}
		}
	}
}

func TestSecondKickAtOneTick(t *testing.T) {
	d := fresh(t, 0, 3)
	ticks(t, d, 2)
	fails(t, d.Kick(), nil)
	fails(t, d.Kick(), api.ErrReset)
	shows(t, d, look{now: 2, kicks: 1, reset: true})
}

func TestBehindAReset(t *testing.T) {
	early, late := fresh(t, 1, 2), fresh(t, 1, 2)
	fails(t, early.Kick(), api.ErrReset)
	ticks(t, late, 4)
	for _, d := range []*dog.Dog{early, late} {
		before := seen(d)
		if !before.reset {
			t.Error("not reset")
		}
		for range 3 {
			fails(t, d.Kick(), api.ErrReset)
			fails(t, d.Tick(), api.ErrReset)
			shows(t, d, before)
		}
	}
}

func TestOpenChangesNothing(t *testing.T) {
	d, e := fresh(t, 2, 2), fresh(t, 2, 2)
	for range 6 {
		for range 3 {
			seen(d)
		}
		fails(t, d.Tick(), e.Tick())
		shows(t, d, seen(e))
	}
}

func TestStartBehindAReset(t *testing.T) {
	d := fresh(t, 1, 2)
	ticks(t, d, 3)
	fails(t, d.Kick(), nil)
	fails(t, d.Kick(), api.ErrReset)
	d.Start()
	shows(t, d, look{now: 3, kicks: 1})
	ticks(t, d, 1)
	shows(t, d, look{now: 4, kicks: 1})
	ticks(t, d, 2)
	shows(t, d, look{now: 6, kicks: 1, open: true})
	ticks(t, d, 1)
	shows(t, d, look{now: 7, kicks: 1, reset: true})
	d.Start()
	d.Start()
	ticks(t, d, 2)
	fails(t, d.Kick(), nil)
	shows(t, d, look{now: 9, kicks: 2})
	d.Start()
	fails(t, d.Kick(), api.ErrReset)
	shows(t, d, look{now: 9, kicks: 2, reset: true})
}

func TestStartInAWindow(t *testing.T) {
	for n := range 4 {
		d := fresh(t, 1, 2)
		ticks(t, d, n)
		d.Start()
		shows(t, d, look{now: n})
		ticks(t, d, 3)
		shows(t, d, look{now: n + 3, open: true})
		ticks(t, d, 1)
		shows(t, d, look{now: n + 4, reset: true})
	}
}

func TestDogsShareNothing(t *testing.T) {
	d, e := fresh(t, 0, 1), fresh(t, 0, 1)
	ticks(t, d, 1)
	fails(t, d.Kick(), nil)
	fails(t, d.Kick(), api.ErrReset)
	shows(t, e, look{})
	ticks(t, e, 1)
	fails(t, e.Kick(), nil)
	shows(t, d, look{now: 1, kicks: 1, reset: true})
}

// P32

func TestKickInEachOpenWindow(t *testing.T) {
	for _, w := range windows {
		d := fresh(t, w[0], w[1])
		now := 0
		for i := range 50 {
			n := w[0] + 1 + []int{0, w[1] - 1, w[1] / 2, i * i % w[1]}[i%4]
			ticks(t, d, n)
			now += n
			shows(t, d, look{now: now, kicks: i, open: true})
			fails(t, d.Kick(), nil)
			shows(t, d, look{now: now, kicks: i + 1})
		}
	}
}

// kicksAreWell asks only what the document says of a window: each kick lies more
// than closed behind the one ahead, and neither it nor the end more than closed
// and open together.
func kicksAreWell(kicks []int, end, closed, open int) bool {
	last := 0
	for _, k := range kicks {
		if k-last <= closed || k-last > closed+open {
			return false
		}
		last = k
	}
	return end-last <= closed+open
}

// TestEachWayToKick goes through all sets of ticks at which a dog is kicked.
func TestEachWayToKick(t *testing.T) {
	const end = 11
	for _, w := range [][2]int{{0, 1}, {0, 2}, {1, 1}, {1, 2}, {2, 1}, {2, 3}, {3, 2}, {0, 4}} {
		for set := range 1 << (end + 1) {
			d := fresh(t, w[0], w[1])
			var kicks []int
			for now := range end + 1 {
				if now > 0 {
					d.Tick()
				}
				if set>>now&1 == 1 {
					kicks = append(kicks, now)
					d.Kick()
				}
			}
			well := kicksAreWell(kicks, end, w[0], w[1])
			if d.Reset() == well || well && (d.Kicks() != len(kicks) || d.Now() != end) {
				t.Fatalf("window %v, kicks at %v: %+v", w, kicks, seen(d))
			}
		}
	}
}

func TestWellAgainBehindAStart(t *testing.T) {
	d := fresh(t, 2, 2)
	ticks(t, d, 5)
	d.Start()
	for i := range 40 {
		ticks(t, d, 3+i%2)
		fails(t, d.Kick(), nil)
		if d.Reset() || d.Kicks() != i+1 {
			t.Fatalf("kick %d: %+v", i+1, seen(d))
		}
	}
}
