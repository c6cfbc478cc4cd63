package alive_test

import (
	"math"
	"math/rand"
	"reflect"
	"slices"
	"testing"

	"nightwatch/alive"
	"nightwatch/api"
)

// entity of three points, with one of them counted.
func entity(point, least, most int) api.Entity {
	return api.Entity{Name: "e", Points: []string{"a", "b", "c"}, Count: point, Min: least, Max: most}
}

func reports(a *alive.Alive, point, n int) {
	for range n {
		a.Report(point)
	}
}

func counts(t *testing.T, a *alive.Alive, want int) {
	t.Helper()
	if got := a.Count(); got != want {
		t.Errorf("got a count of %d, want %d", got, want)
	}
}

// ends the cycle, behind which nothing is counted, however it was.
func ends(t *testing.T, a *alive.Alive, whole, want bool) {
	t.Helper()
	if got := a.End(whole); got != want {
		t.Errorf("End(%t): got %t, want %t", whole, got, want)
	}
	counts(t, a, 0)
}

// Numbers that are no point of an entity of three.
var noPoints = []int{-1, -2, 3, 4, api.MaxPoints, math.MinInt, math.MaxInt}

// P50

func TestNewCountsNothingYet(t *testing.T) {
	for _, p := range append([]int{0, 1, 2}, noPoints...) {
		counts(t, alive.New(entity(p, 1, 2)), 0)
	}
}

func TestCountsItsPointAlone(t *testing.T) {
	for p := range 3 {
		a := alive.New(entity(p, 0, 9))
		for n := range 5 {
			counts(t, a, n)
			for q := range 3 {
				if q != p {
					a.Report(q)
				}
			}
			for _, q := range noPoints {
				a.Report(q)
			}
			counts(t, a, n)
			a.Report(p)
		}
		counts(t, a, 5)
	}
}

func TestCountChangesNothing(t *testing.T) {
	a := alive.New(entity(0, 3, 3))
	for n := range 4 {
		counts(t, a, n)
		counts(t, a, n)
		if n < 3 {
			a.Report(0)
		}
	}
	ends(t, a, true, true)
}

func TestWellFromMinToMax(t *testing.T) {
	for least := range 5 {
		for most := least; most < 6; most++ {
			a := alive.New(entity(1, least, most))
			for n := range 8 {
				reports(a, 1, n)
				counts(t, a, n)
				ends(t, a, true, n >= least && n <= most)
				reports(a, 1, n)
				counts(t, a, n)
				ends(t, a, false, true)
			}
		}
	}
}

// The bounds that a checked config can have at the upper end.
func TestWellAtTheGreatestBounds(t *testing.T) {
	const most = api.MaxCount - 1
	for _, c := range []struct {
		least, most, n int
		want           bool
	}{
		{most, most, most - 1, false}, {most, most, most, true}, {most, most, most + 1, false}, {most, most, most + 2, false},
		{0, most, 0, true}, {0, most, most, true}, {0, most, most + 1, false}, {0, most, 3 * most, false},
		{0, 0, 0, true}, {0, 0, 1, false}, {0, 0, api.MaxCount, false}, {0, 0, api.MaxCount + 1, false},
	} {
		a := alive.New(entity(2, c.least, c.most))
		reports(a, 2, c.n)
		ends(t, a, true, c.want)
	}
}

func TestEachCycleIsCountedAnew(t *testing.T) {
	a := alive.New(entity(0, 2, 3))
	for _, c := range []struct {
		n           int
		whole, want bool
	}{
		{2, true, true}, {1, true, false}, {1, true, false}, {4, true, false}, {0, true, false}, {3, true, true},
		{1, false, true}, {1, true, false}, {5, false, true}, {2, true, true}, {0, false, true}, {2, true, true},
	} {
		reports(a, 0, c.n)
		counts(t, a, c.n)
		ends(t, a, c.whole, c.want)
	}
}

func TestNothingIsCounted(t *testing.T) {
	for _, p := range noPoints {
		a := alive.New(entity(p, 1, 1))
		for range 3 {
			for _, q := range append([]int{0, 1, 2, p}, noPoints...) {
				a.Report(q)
				a.Report(q)
				counts(t, a, 0)
			}
			ends(t, a, true, true)
			ends(t, a, false, true)
		}
	}
}

func TestEntityWithoutPoints(t *testing.T) {
	for _, e := range []api.Entity{
		{}, {Count: -1}, {Count: 0, Min: 1, Max: 1}, {Points: []string{}, Count: 0, Min: 1, Max: 1}, {Count: math.MaxInt, Min: 5, Max: 2},
	} {
		a := alive.New(e)
		for _, q := range []int{0, e.Count, -1} {
			reports(a, q, 2)
			counts(t, a, 0)
		}
		ends(t, a, true, true)
	}
}

// The last of the points is one, the number behind it is none.
func TestLastPoint(t *testing.T) {
	for n := 1; n <= api.MaxPoints; n++ {
		points := slices.Repeat([]string{"p"}, n)
		last := alive.New(api.Entity{Points: points, Count: n - 1, Min: 1, Max: 1})
		last.Report(n - 1)
		counts(t, last, 1)
		ends(t, last, true, true)
		ends(t, last, true, false)
		behind := alive.New(api.Entity{Points: points, Count: n, Min: 1, Max: 1})
		behind.Report(n)
		counts(t, behind, 0)
		ends(t, behind, true, true)
	}
}

// New takes entities that no config could have: their bounds are held to the word.
func TestBoundsOfNoConfig(t *testing.T) {
	for _, c := range []struct {
		least, most, n int
		want           bool
	}{
		{3, 2, 2, false}, {3, 2, 3, false}, {-5, -1, 0, false}, {-5, 0, 0, true}, {-5, 1, 2, false},
		{math.MinInt, math.MaxInt, 0, true}, {math.MinInt, math.MaxInt, 7, true}, {math.MaxInt, math.MinInt, 7, false},
		{0, math.MinInt, 0, false}, {math.MaxInt, math.MaxInt, 7, false},
		{api.MaxCount, api.MaxCount, api.MaxCount - 1, false}, {api.MaxCount, api.MaxCount, api.MaxCount, true},
		{api.MaxCount, api.MaxCount, api.MaxCount + 9, true}, {api.MaxCount + 1, api.MaxCount + 2, api.MaxCount + 1, false},
	} {
		a := alive.New(entity(0, c.least, c.most))
		reports(a, 0, c.n)
		ends(t, a, true, c.want)
		reports(a, 0, c.n)
		ends(t, a, false, true)
	}
}

func TestCountersShareNothing(t *testing.T) {
	e := entity(1, 1, 2)
	a, b := alive.New(e), alive.New(e)
	reports(a, 1, 2)
	counts(t, b, 0)
	ends(t, b, true, false)
	counts(t, a, 2)
	ends(t, a, true, true)
}

// P4
func TestEntityIsOnlyRead(t *testing.T) {
	e, same := entity(1, 2, 2), entity(1, 2, 2)
	a := alive.New(e)
	a.Report(1)
	e.Points[1] = "z"
	e.Points = e.Points[:0]
	e.Count, e.Min, e.Max = 0, 0, 0
	a.Report(1)
	a.Report(0)
	counts(t, a, 2)
	ends(t, a, true, true)
	f := entity(1, 2, 2)
	ends(t, alive.New(f), true, false)
	if !reflect.DeepEqual(f, same) {
		t.Errorf("the entity is changed: %+v", f)
	}
}

// P51

func TestStaysAtMaxCount(t *testing.T) {
	a := alive.New(entity(0, 0, api.MaxCount-1))
	for n := range 3 * api.MaxCount {
		counts(t, a, min(n, api.MaxCount))
		a.Report(0)
	}
	ends(t, a, true, false)
	reports(a, 0, 1)
	counts(t, a, 1)
	ends(t, a, true, true)
}

// TestBeyondMaxCount holds two counters against each other, of which one is not
// told what is beyond MaxCount: whatever the bounds, no call tells them apart.
func TestBeyondMaxCount(t *testing.T) {
	r := rand.New(rand.NewSource(51))
	sizes := []int{0, 1, api.MaxCount - 2, api.MaxCount - 1, api.MaxCount, api.MaxCount + 1, 2 * api.MaxCount}
	bounds := append([]int{-1, math.MinInt, math.MaxInt}, sizes...)
	for _, least := range bounds {
		for _, most := range bounds {
			all, some := alive.New(entity(1, least, most)), alive.New(entity(1, least, most))
			for range 6 {
				n := sizes[r.Intn(len(sizes))] + r.Intn(2)
				reports(all, 1, n)
				reports(some, 1, min(n, api.MaxCount))
				counts(t, all, some.Count())
				whole := r.Intn(4) > 0
				ends(t, all, whole, some.End(whole))
			}
		}
	}
}
