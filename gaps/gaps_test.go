package gaps_test

import (
	"math"
	"math/rand"
	"reflect"
	"slices"
	"testing"

	"nightwatch/api"
	"nightwatch/gaps"
)

type mark struct{ point, tick int }

// watch over gaps of an entity of three points.
func watch(l ...api.Gap) *gaps.Gaps {
	return gaps.New(api.Entity{Name: "e", Points: []string{"a", "b", "c"}, Count: -1, Gaps: l})
}

func report(g *gaps.Gaps, l ...mark) {
	for _, m := range l {
		g.Report(m.point, m.tick)
	}
}

// ends the cycle; an empty one behind it is well, however it was.
func ends(t *testing.T, g *gaps.Gaps, want bool) {
	t.Helper()
	if got := g.End(); got != want {
		t.Errorf("End: got %t, want %t", got, want)
	}
	if !g.End() {
		t.Error("End of a cycle without a report: got false")
	}
}

// cycle of these reports.
func cycle(t *testing.T, g *gaps.Gaps, want bool, l ...mark) {
	t.Helper()
	report(g, l...)
	ends(t, g, want)
}

// Ticks that are none.
var noTicks = []int{-1, -2, api.MaxTick + 1, api.MaxTick + 2, math.MinInt, math.MaxInt}

// P60

func TestNoReportIsWell(t *testing.T) {
	ends(t, watch(), true)
	ends(t, watch(api.Gap{From: 0, To: 1, Min: 3, Max: 5}), true)
	ends(t, gaps.New(api.Entity{}), true)
}

func TestWithoutGapsAllIsWell(t *testing.T) {
	for _, g := range []*gaps.Gaps{gaps.New(api.Entity{}), gaps.New(api.Entity{Gaps: []api.Gap{}}), watch()} {
		for _, p := range []int{0, 1, -1, api.MaxPoints, math.MinInt, math.MaxInt} {
			cycle(t, g, true, mark{p, 0}, mark{p, 7}, mark{p, 3}, mark{p, -1}, mark{p, math.MaxInt})
		}
	}
}

func TestWellFromMinToMax(t *testing.T) {
	for least := range 5 {
		for most := least; most < 7; most++ {
			for between := range 10 {
				g := watch(api.Gap{From: 0, To: 1, Min: least, Max: most})
				cycle(t, g, between >= least && between <= most, mark{0, 20}, mark{1, 20 + between})
			}
		}
	}
}

func TestToWithoutFromIsBad(t *testing.T) {
	for _, tick := range []int{0, 1, 4, 5, api.MaxTick} {
		g := watch(api.Gap{From: 0, To: 1, Min: 0, Max: api.MaxTick})
		cycle(t, g, false, mark{1, tick})
		cycle(t, g, false, mark{2, tick}, mark{1, tick})
		cycle(t, g, true, mark{0, 0}, mark{1, tick})
	}
}

// A report of From at tick 0 is one, and so is one that no To comes behind.
func TestFromAtTickZero(t *testing.T) {
	g := watch(api.Gap{From: 0, To: 1, Min: 0, Max: 0})
	cycle(t, g, true, mark{0, 0}, mark{1, 0})
	cycle(t, g, false, mark{1, 1})
	cycle(t, g, true, mark{0, 5}, mark{0, 6}, mark{0, 7})
}

func TestLatestReportOfFromCounts(t *testing.T) {
	g := watch(api.Gap{From: 0, To: 1, Min: 2, Max: 3})
	cycle(t, g, true, mark{0, 10}, mark{0, 20}, mark{1, 22})
	cycle(t, g, true, mark{1, 23})
	cycle(t, g, false, mark{1, 24})
	cycle(t, g, false, mark{0, 30}, mark{0, 31}, mark{1, 32})
	// The latest one is the last that came, also where its tick is less.
	cycle(t, g, true, mark{0, 40}, mark{0, 30}, mark{1, 33})
	cycle(t, g, false, mark{1, 42})
}

// From is needed once, not once for each To; and a To that is bad takes nothing away.
func TestOneFromForManyTo(t *testing.T) {
	g := watch(api.Gap{From: 0, To: 1, Min: 2, Max: 4})
	cycle(t, g, true, mark{0, 10}, mark{1, 12}, mark{1, 13}, mark{1, 14}, mark{1, 12})
	cycle(t, g, false, mark{1, 11})
	cycle(t, g, true, mark{1, 12})
	cycle(t, g, false, mark{1, 15})
	cycle(t, g, true, mark{1, 14})
}

func TestOneBadMakesTheCycleBad(t *testing.T) {
	bad, well := mark{1, 9}, mark{1, 12}
	for n := range 4 {
		g := watch(api.Gap{From: 0, To: 1, Min: 2, Max: 4})
		cycle(t, g, true, mark{0, 10}, well)
		l := slices.Repeat([]mark{well}, 3)
		cycle(t, g, false, slices.Insert(l, n, bad)...)
		cycle(t, g, true, slices.Repeat([]mark{well}, 3)...)
	}
}

func TestFromCountsOnBehindACycle(t *testing.T) {
	g := watch(api.Gap{From: 0, To: 1, Min: 100, Max: 200})
	cycle(t, g, true, mark{0, 7})
	for range 10 {
		ends(t, g, true)
	}
	cycle(t, g, false, mark{1, 106})
	cycle(t, g, true, mark{1, 107})
	cycle(t, g, true, mark{1, 207})
	cycle(t, g, false, mark{1, 208})
}

func TestEachGapIsWatched(t *testing.T) {
	l := []api.Gap{{From: 0, To: 1, Min: 1, Max: 2}, {From: 1, To: 2, Min: 3, Max: 4}, {From: 0, To: 2, Min: 5, Max: 5}}
	for _, c := range []struct {
		b, c int
		want bool
	}{{1, 5, true}, {2, 5, true}, {1, 4, false}, {2, 6, false}, {0, 5, false}, {3, 5, false}, {1, 6, false}} {
		for turn := range l { // the same whichever comes first
			g := watch(append(slices.Clone(l[turn:]), l[:turn]...)...)
			cycle(t, g, c.want, mark{0, 50}, mark{1, 50 + c.b}, mark{2, 50 + c.c})
		}
	}
}

// Two gaps between the same points are both held; two at one To have each their own From.
func TestGapsThatMeet(t *testing.T) {
	g := watch(api.Gap{From: 0, To: 1, Min: 0, Max: 5}, api.Gap{From: 0, To: 1, Min: 3, Max: 9})
	cycle(t, g, true, mark{0, 10}, mark{1, 13}, mark{1, 15})
	cycle(t, g, false, mark{1, 12})
	cycle(t, g, false, mark{1, 16})
	g = watch(api.Gap{From: 0, To: 2, Min: 1, Max: 1}, api.Gap{From: 1, To: 2, Min: 2, Max: 2})
	cycle(t, g, false, mark{0, 10}, mark{2, 11})
	cycle(t, g, true, mark{1, 9}, mark{2, 11})
	// There and back.
	g = watch(api.Gap{From: 0, To: 1, Min: 2, Max: 2}, api.Gap{From: 1, To: 0, Min: 3, Max: 3})
	cycle(t, g, false, mark{0, 10}, mark{1, 12})
	cycle(t, g, true, mark{0, 15}, mark{1, 17}, mark{0, 20})
	cycle(t, g, false, mark{0, 21})
}

func TestOtherPointsAreNothing(t *testing.T) {
	g := watch(api.Gap{From: 0, To: 1, Min: 2, Max: 2})
	report(g, mark{0, 10})
	for _, p := range []int{2, 3, -1, api.MaxPoints, math.MinInt, math.MaxInt} {
		cycle(t, g, true, mark{p, 0}, mark{p, 11}, mark{p, api.MaxTick}, mark{1, 12})
	}
}

func TestTicksThatAreNone(t *testing.T) {
	for _, tick := range noTicks {
		g := watch(api.Gap{From: 0, To: 1, Min: 2, Max: 4}, api.Gap{From: 2, To: 2, Min: 1, Max: 1})
		cycle(t, g, true, mark{1, tick}, mark{2, tick}) // no To: nothing is bad
		cycle(t, g, false, mark{0, tick}, mark{1, 3})   // no From: not reported yet
		cycle(t, g, false, mark{2, tick}, mark{2, 7})
		cycle(t, g, true, mark{0, 10}, mark{0, tick}, mark{1, tick}, mark{1, 12}, mark{2, tick}, mark{2, 8})
		// Nor does it make good what is bad.
		cycle(t, g, false, mark{1, 11}, mark{1, tick}, mark{0, tick})
	}
}

func TestTheGreatestTicks(t *testing.T) {
	g := watch(api.Gap{From: 0, To: 1, Min: api.MaxTick, Max: api.MaxTick})
	cycle(t, g, true, mark{0, 0}, mark{1, api.MaxTick})
	cycle(t, g, false, mark{1, api.MaxTick - 1})
	cycle(t, g, false, mark{0, 1}, mark{1, api.MaxTick})
	g = watch(api.Gap{From: 0, To: 1, Min: 0, Max: 0})
	cycle(t, g, true, mark{0, api.MaxTick}, mark{1, api.MaxTick})
	cycle(t, g, false, mark{1, 0})
	cycle(t, g, false, mark{1, api.MaxTick - 1})
}

// New takes entities that no config could have: their gaps are held to the word.
func TestGapsOfNoConfig(t *testing.T) {
	for _, c := range []struct {
		least, most, between int
		want                 bool
	}{
		{3, 2, 2, false}, {3, 2, 3, false}, {-2, 1, -2, true}, {-2, 1, -3, false}, {-2, 1, 1, true}, {-2, 1, 2, false},
		{-1, -1, -1, true}, {-1, -1, 0, false}, {math.MinInt, math.MaxInt, -9, true}, {math.MinInt, math.MaxInt, 9, true},
		{math.MaxInt, math.MinInt, 0, false}, {math.MaxInt, math.MaxInt, 9, false}, {math.MinInt, math.MinInt, -9, false},
		{0, math.MaxInt, -1, false}, {math.MinInt, 0, 1, false}, {math.MinInt, 0, 0, true},
	} {
		for _, p := range []mark{{0, 1}, {-1, -2}, {3, api.MaxPoints}, {math.MinInt, math.MaxInt}, {1, -1}} {
			gap := api.Gap{From: p.point, To: p.tick, Min: c.least, Max: c.most}
			for _, g := range []*gaps.Gaps{watch(gap), gaps.New(api.Entity{Gaps: []api.Gap{gap}})} {
				cycle(t, g, false, mark{gap.To, 10})
				cycle(t, g, c.want, mark{gap.From, 10}, mark{gap.To, 10 + c.between})
			}
		}
	}
}

// Also more of them than a config may have.
func TestManyGaps(t *testing.T) {
	for n := 1; n <= 3*api.MaxGaps; n++ {
		l := slices.Repeat([]api.Gap{{From: 0, To: 1, Min: 0, Max: 9}}, n)
		l[n-1].Max = 4
		g := watch(l...)
		cycle(t, g, true, mark{0, 10}, mark{1, 14})
		cycle(t, g, false, mark{1, 15})
	}
}

func TestWatchesShareNothing(t *testing.T) {
	e := api.Entity{Gaps: []api.Gap{{From: 0, To: 1, Min: 2, Max: 4}}}
	a, b := gaps.New(e), gaps.New(e)
	report(a, mark{0, 10}, mark{1, 99})
	ends(t, b, true)
	cycle(t, b, false, mark{1, 12})
	ends(t, a, false)
	cycle(t, a, true, mark{1, 12})
}

// P4
func TestEntityIsOnlyRead(t *testing.T) {
	memory := []api.Gap{{From: 0, To: 1, Min: 2, Max: 4}, {From: 2, To: 2, Min: 9, Max: 9}}
	same := slices.Clone(memory)
	g := gaps.New(api.Entity{Gaps: memory[:1]})
	cycle(t, g, true, mark{0, 10}, mark{1, 12}, mark{2, 3}) // the second one lies behind the list
	cycle(t, g, false, mark{1, 15})
	if !reflect.DeepEqual(memory, same) {
		t.Errorf("the gaps are changed: %v", memory)
	}
	memory[0] = api.Gap{From: 1, To: 0, Min: 0, Max: 0}
	cycle(t, g, true, mark{0, 20}, mark{1, 24})
	cycle(t, g, false, mark{1, 25})
}

// P61

func TestGapFromAPointToItself(t *testing.T) {
	g := watch(api.Gap{From: 0, To: 0, Min: 5, Max: 6})
	cycle(t, g, false, mark{0, 3}) // none is ahead of it
	cycle(t, g, true, mark{0, 8})
	cycle(t, g, false, mark{0, 15})
	cycle(t, g, true, mark{0, 21}) // also behind a bad one
	cycle(t, g, false, mark{0, 25})
	cycle(t, g, true, mark{0, 30}, mark{0, 36}, mark{1, 37}, mark{0, 41})
}

// A report is not held against itself: with bounds that only 0 is within, the first one is bad.
func TestFirstReportIsHeldAgainstNone(t *testing.T) {
	for _, first := range []int{0, 1, 7, api.MaxTick} {
		g := watch(api.Gap{From: 1, To: 1, Min: 0, Max: 0})
		cycle(t, g, false, mark{1, first})
		cycle(t, g, true, mark{1, first}, mark{1, first})
		// And with bounds that 0 is not within, the second one is well.
		g = watch(api.Gap{From: 1, To: 1, Min: -3, Max: -3})
		cycle(t, g, false, mark{1, first})
		if first >= 3 {
			cycle(t, g, true, mark{1, first - 3})
		}
	}
}

// Of a gap from a point to itself, each report is held against the one ahead of it.
func TestEachIsHeldAgainstTheOneAhead(t *testing.T) {
	r := rand.New(rand.NewSource(61))
	for range 300 {
		p, least := r.Intn(3), r.Intn(6)
		most := least + r.Intn(6)
		g := watch(api.Gap{From: p, To: p, Min: least, Max: most})
		report(g, mark{p, 0})
		ends(t, g, false)
		ahead := 0
		for range 30 {
			tick := max(0, ahead+r.Intn(14)-2)
			between := tick - ahead
			cycle(t, g, between >= least && between <= most, mark{(p + 1) % 3, r.Intn(99)}, mark{p, tick}, mark{p, -1})
			ahead = tick
		}
	}
}

// TestAgainstTheReports works the answers out of all that was reported, each
// gap's From looked for from the end on.
func TestAgainstTheReports(t *testing.T) {
	r := rand.New(rand.NewSource(60))
	for range 2000 {
		l := make([]api.Gap, r.Intn(5))
		for i := range l {
			least := r.Intn(5)
			l[i] = api.Gap{From: r.Intn(3), To: r.Intn(3), Min: least, Max: least + r.Intn(9)}
		}
		g := watch(l...)
		var all []mark
		tick, well := 0, true
		for range 40 {
			if r.Intn(4) == 0 {
				ends(t, g, well)
				well = true
				continue
			}
			tick += r.Intn(5)
			m := mark{r.Intn(4), tick}
			g.Report(m.point, m.tick)
			well = well && !slices.ContainsFunc(l, func(x api.Gap) bool { return x.To == m.point && isBad(x, all, tick) })
			all = append(all, m)
		}
	}
}

// isBad holds a report of To against those ahead of it.
func isBad(x api.Gap, ahead []mark, tick int) bool {
	for _, m := range slices.Backward(ahead) {
		if m.point == x.From {
			return tick-m.tick < x.Min || tick-m.tick > x.Max
		}
	}
	return true
}
