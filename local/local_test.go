package local_test

import (
	"math"
	"math/rand"
	"reflect"
	"slices"
	"testing"

	"nightwatch/alive"
	"nightwatch/api"
	"nightwatch/conf"
	"nightwatch/flow"
	"nightwatch/gaps"
	"nightwatch/local"
)

type mark struct{ point, tick int }

// entity of three points: a is counted, once or twice; from a to b it is 2 or 3
// ticks; and a and b are round each other, with a first. c stands in no order.
func entity(tolerance int) api.Entity {
	return api.Entity{
		Name: "e", Tolerance: tolerance, Points: []string{"a", "b", "c"}, Count: 0, Min: 1, Max: 2,
		Gaps: []api.Gap{{From: 0, To: 1, Min: 2, Max: 3}}, Edges: [][2]int{{0, 1}, {1, 0}}, First: []int{0},
	}
}

// counted is an entity of which only how often is asked: a, once in each cycle.
func counted(tolerance int) api.Entity {
	return api.Entity{Name: "e", Tolerance: tolerance, Points: []string{"a"}, Count: 0, Min: 1, Max: 1}
}

// active one, behind its first cycle, which Alive asks nothing of.
func active(t *testing.T, e api.Entity) *local.Local {
	t.Helper()
	l := local.New(e)
	begins(t, l)
	ends(t, l, 0, false, "ok", 0)
	return l
}

func is(t *testing.T, l *local.Local, status string, run int) {
	t.Helper()
	if s, r := l.Status(), l.Run(); s != status || r != run {
		t.Errorf("got %s, run %d, want %s, run %d", s, r, status, run)
	}
}

func ends(t *testing.T, l *local.Local, kind int, expired bool, status string, run int) {
	t.Helper()
	if k, x := l.End(); k != kind || x != expired {
		t.Errorf("End: got %d, %t, want %d, %t", k, x, kind, expired)
	}
	is(t, l, status, run)
}

func begins(t *testing.T, l *local.Local) {
	t.Helper()
	answers(t, l.Begin(), nil)
	is(t, l, "ok", 0)
}

func stops(t *testing.T, l *local.Local) {
	t.Helper()
	answers(t, l.Stop(), nil)
	is(t, l, "idle", 0)
}

// answers are bare errors: no place is told.
func answers(t *testing.T, got, want error) {
	t.Helper()
	if got != want {
		t.Errorf("got %v, want %v", got, want)
	}
}

func reports(t *testing.T, l *local.Local, marks ...mark) {
	t.Helper()
	for _, m := range marks {
		answers(t, l.Report(m.point, m.tick), nil)
	}
}

// Points that an entity of three has not.
var noPoints = []int{3, 4, -1, -2, api.MaxPoints, math.MinInt, math.MaxInt}

// P80

func TestIdleAtFirst(t *testing.T) {
	for _, e := range []api.Entity{{}, entity(0), counted(api.MaxTolerance), {Tolerance: -1}} {
		l := local.New(e)
		is(t, l, "idle", 0)
		for range 3 {
			ends(t, l, 0, false, "idle", 0)
		}
		answers(t, l.Stop(), api.ErrIdle)
		is(t, l, "idle", 0)
		begins(t, l)
		stops(t, l)
		answers(t, l.Stop(), api.ErrIdle)
	}
}

func TestBeginOfAnActiveOne(t *testing.T) {
	l := active(t, entity(1))
	reports(t, l, mark{0, 10})
	answers(t, l.Begin(), api.ErrHeld)
	reports(t, l, mark{1, 12}) // what was reported ahead of it counts on
	ends(t, l, 0, false, "ok", 0)
	ends(t, l, api.Alive, false, "failed", 1)
	answers(t, l.Begin(), api.ErrHeld)
	is(t, l, "failed", 1)
	ends(t, l, api.Alive, true, "expired", 2)
	answers(t, l.Begin(), api.ErrHeld)
	ends(t, l, api.Alive, false, "expired", 3)
}

func TestReportOfAnIdleOne(t *testing.T) {
	l := local.New(entity(0))
	for _, p := range append([]int{0, 1, 2}, noPoints...) {
		answers(t, l.Report(p, 5), api.ErrIdle)
	}
	begins(t, l)
	stops(t, l)
	for _, p := range append([]int{0, 1, 2}, noPoints...) {
		answers(t, l.Report(p, 5), api.ErrIdle)
	}
	// Nor was one of them seen: b comes without an a ahead.
	begins(t, l)
	reports(t, l, mark{1, 7})
	ends(t, l, api.Gaps, true, "expired", 1)
}

func TestReportOfNoPoint(t *testing.T) {
	l := active(t, entity(0))
	for i, p := range noPoints {
		tick := 100 * i
		answers(t, l.Report(p, tick), api.ErrNone)
		reports(t, l, mark{0, tick})
		answers(t, l.Report(p, tick+1), api.ErrNone)
		reports(t, l, mark{1, tick + 2})
		answers(t, l.Report(p, -1), api.ErrNone)
		ends(t, l, 0, false, "ok", 0)
	}
	none := local.New(api.Entity{Count: -1})
	begins(t, none)
	for _, p := range []int{0, -1, 1} {
		answers(t, none.Report(p, 0), api.ErrNone)
	}
	ends(t, none, 0, false, "ok", 0)
}

// A gap, or the count, of a point that there is not makes none.
func TestReportOfAPointThatIsOnlyNamed(t *testing.T) {
	l := active(t, api.Entity{Points: []string{"a"}, Count: 1, Min: 1, Max: 1, Gaps: []api.Gap{{From: 1, To: 1}}, Edges: [][2]int{{1, 1}}, First: []int{1, 0}})
	answers(t, l.Report(1, 1), api.ErrNone)
	answers(t, l.Report(-1, 1), api.ErrNone)
	reports(t, l, mark{0, 1})
	ends(t, l, 0, false, "ok", 0)
}

// A tick that is none is nothing to the gaps, and a report to the other two.
func TestTicksThatAreNone(t *testing.T) {
	for _, tick := range []int{-1, api.MaxTick + 1, math.MinInt, math.MaxInt} {
		l := active(t, entity(9))
		reports(t, l, mark{0, tick}, mark{1, tick})
		ends(t, l, 0, false, "ok", 0)
		reports(t, l, mark{0, tick}, mark{1, 5})
		ends(t, l, api.Gaps, false, "failed", 1)
		reports(t, l, mark{0, tick}, mark{0, tick})
		ends(t, l, api.Flow, false, "failed", 2)
		reports(t, l, mark{1, tick})
		ends(t, l, api.Alive, false, "failed", 3)
	}
	l := active(t, entity(9))
	reports(t, l, mark{0, api.MaxTick - 2}, mark{1, api.MaxTick})
	ends(t, l, 0, false, "ok", 0)
}

// All three are as at the beginning behind Begin: the count, the latest reports
// and the point ahead, and what was bad in a cycle that never ended.
func TestBeginsAnew(t *testing.T) {
	one := func(change func(*api.Entity)) api.Entity {
		e := api.Entity{Points: []string{"a", "b"}, Count: -1}
		change(&e)
		return e
	}
	often := one(func(e *api.Entity) { e.Count, e.Min, e.Max = 0, 1, 1 })
	between := one(func(e *api.Entity) { e.Gaps = []api.Gap{{From: 0, To: 1, Max: api.MaxTick}} })
	order := one(func(e *api.Entity) { e.Edges, e.First = [][2]int{{0, 1}, {1, 1}}, []int{0} })
	for _, c := range []struct {
		e      api.Entity
		ahead  []mark
		behind []mark
		kind   int
	}{
		{often, []mark{{0, 1}, {0, 2}, {0, 3}}, nil, 0},
		{often, nil, nil, 0},
		{between, []mark{{0, 1}}, []mark{{1, 2}}, api.Gaps},
		{between, []mark{{1, 1}}, []mark{{0, 2}, {1, 3}}, 0},
		{order, []mark{{0, 1}}, []mark{{1, 2}}, api.Flow},
		{order, []mark{{1, 1}}, []mark{{0, 2}, {1, 3}}, 0},
	} {
		l := active(t, c.e)
		reports(t, l, c.ahead...)
		stops(t, l)
		begins(t, l)
		reports(t, l, c.behind...)
		if kind, _ := l.End(); kind != c.kind {
			t.Errorf("%v, then anew %v: got %d, want %d", c.ahead, c.behind, kind, c.kind)
		}
	}
}

// A count is not carried into the first whole cycle either.
func TestCountOfTheTimeAhead(t *testing.T) {
	l := active(t, counted(5))
	reports(t, l, mark{0, 1})
	stops(t, l)
	begins(t, l)
	reports(t, l, mark{0, 2})
	ends(t, l, 0, false, "ok", 0)
	reports(t, l, mark{0, 3})
	ends(t, l, 0, false, "ok", 0)
}

func TestStopForgetsTheRun(t *testing.T) {
	l := active(t, counted(2))
	ends(t, l, api.Alive, false, "failed", 1)
	ends(t, l, api.Alive, false, "failed", 2)
	stops(t, l)
	ends(t, l, 0, false, "idle", 0)
	begins(t, l)
	ends(t, l, 0, false, "ok", 0)
	ends(t, l, api.Alive, false, "failed", 1)
	ends(t, l, api.Alive, false, "failed", 2)
	ends(t, l, api.Alive, true, "expired", 3)
}

// P81

// The first of the three that was not well is told.
func TestKinds(t *testing.T) {
	for _, c := range []struct {
		marks []mark
		kind  int
	}{
		{[]mark{{0, 10}, {1, 12}}, 0},
		{[]mark{{0, 10}, {1, 13}, {0, 14}}, 0},
		{nil, api.Alive},
		{[]mark{{0, 10}, {1, 12}, {0, 13}, {1, 15}, {0, 16}}, api.Alive},
		{[]mark{{1, 10}}, api.Alive}, // and gaps, and flow
		{[]mark{{2, 10}}, api.Alive}, // and flow
		{[]mark{{0, 10}, {1, 11}}, api.Gaps},
		{[]mark{{0, 10}, {1, 14}}, api.Gaps},
		{[]mark{{1, 9}, {0, 10}}, api.Gaps}, // and flow
		{[]mark{{0, 10}, {0, 11}}, api.Flow},
		{[]mark{{0, 10}, {2, 11}}, api.Flow},
		{[]mark{{2, 9}, {0, 10}, {1, 12}}, api.Flow},
	} {
		l := active(t, entity(3))
		reports(t, l, c.marks...)
		status, run := "ok", 0
		if c.kind != 0 {
			status, run = "failed", 1
		}
		ends(t, l, c.kind, false, status, run)
	}
}

// What was bad in one cycle is not so in the next one, also where another kind
// was told.
func TestEachCycleIsAskedAnew(t *testing.T) {
	l := active(t, entity(9))
	reports(t, l, mark{1, 10}) // not well in all three ways
	ends(t, l, api.Alive, false, "failed", 1)
	reports(t, l, mark{0, 20}, mark{1, 22})
	ends(t, l, 0, false, "ok", 0)
	reports(t, l, mark{1, 30}, mark{0, 31}) // in two
	ends(t, l, api.Gaps, false, "failed", 1)
	reports(t, l, mark{1, 33}, mark{0, 34})
	ends(t, l, 0, false, "ok", 0)
}

// Reports count on from cycle to cycle, in gaps and in flow.
func TestAcrossCycles(t *testing.T) {
	e := entity(9)
	e.Min = 0
	l := active(t, e)
	reports(t, l, mark{0, 10})
	ends(t, l, 0, false, "ok", 0)
	ends(t, l, 0, false, "ok", 0)
	reports(t, l, mark{1, 13})
	ends(t, l, 0, false, "ok", 0)
	reports(t, l, mark{1, 13})
	ends(t, l, api.Flow, false, "failed", 1)
	reports(t, l, mark{0, 20})
	ends(t, l, 0, false, "ok", 0)
	reports(t, l, mark{1, 24})
	ends(t, l, api.Gaps, false, "failed", 1)
}

// Alive asks nothing of the cycle in which it began, gaps and flow do.
func TestCycleThatIsNotWhole(t *testing.T) {
	for _, n := range []int{0, 1, 3, 4} {
		l := local.New(counted(0))
		ends(t, l, 0, false, "idle", 0)
		begins(t, l)
		reports(t, l, slices.Repeat([]mark{{0, 1}}, n)...)
		ends(t, l, 0, false, "ok", 0)
		ends(t, l, api.Alive, true, "expired", 1)
	}
	l := local.New(entity(0))
	begins(t, l)
	reports(t, l, mark{0, 1}, mark{1, 2})
	ends(t, l, api.Gaps, true, "expired", 1)
	l = local.New(entity(0))
	begins(t, l)
	reports(t, l, mark{2, 1})
	ends(t, l, api.Flow, true, "expired", 1)
}

// Who was stopped and began again in one cycle was not active in the whole of it.
func TestStoppedAndBegunInOneCycle(t *testing.T) {
	l := active(t, counted(0))
	for range 3 {
		stops(t, l)
		begins(t, l)
		ends(t, l, 0, false, "ok", 0)
	}
	stops(t, l)
	ends(t, l, 0, false, "idle", 0) // nor was one that was idle at the end ahead
	begins(t, l)
	ends(t, l, 0, false, "ok", 0)
	ends(t, l, api.Alive, true, "expired", 1)
}

// The document's example, and each other tolerance.
func TestTolerance(t *testing.T) {
	l := active(t, counted(1))
	ends(t, l, api.Alive, false, "failed", 1)
	ends(t, l, api.Alive, true, "expired", 2)
	ends(t, l, api.Alive, false, "expired", 3)
	for tolerance := range api.MaxTolerance + 1 {
		l := active(t, counted(tolerance))
		for n := 1; n <= tolerance; n++ {
			ends(t, l, api.Alive, false, "failed", n)
		}
		ends(t, l, api.Alive, true, "expired", tolerance+1)
		ends(t, l, api.Alive, false, "expired", tolerance+2)
	}
}

// A well cycle between begins the run anew, however often.
func TestRunIsBroken(t *testing.T) {
	l := active(t, counted(2))
	for range 10 {
		ends(t, l, api.Alive, false, "failed", 1)
		ends(t, l, api.Alive, false, "failed", 2)
		reports(t, l, mark{0, 1})
		ends(t, l, 0, false, "ok", 0)
	}
	ends(t, l, api.Alive, false, "failed", 1)
	ends(t, l, api.Alive, false, "failed", 2)
	ends(t, l, api.Alive, true, "expired", 3)
}

// A run is one of cycles that were not well, of whatever kinds.
func TestRunOfSeveralKinds(t *testing.T) {
	l := active(t, entity(2))
	reports(t, l, mark{0, 10}, mark{2, 11})
	ends(t, l, api.Flow, false, "failed", 1)
	reports(t, l, mark{0, 20}, mark{1, 21})
	ends(t, l, api.Gaps, false, "failed", 2)
	ends(t, l, api.Alive, true, "expired", 3)
}

func TestRunGoesOnWhenExpired(t *testing.T) {
	l := active(t, counted(0))
	ends(t, l, api.Alive, true, "expired", 1)
	for n := 2; n < 100; n++ {
		ends(t, l, api.Alive, false, "expired", n)
	}
	reports(t, l, mark{0, 1})
	ends(t, l, 0, false, "expired", 0)
	ends(t, l, api.Alive, false, "expired", 1)
}

// New takes entities that no config could have: a run of 0 is ok whatever is borne.
func TestTolerancesOfNoConfig(t *testing.T) {
	for _, tolerance := range []int{-1, -2, math.MinInt} {
		l := active(t, counted(tolerance))
		reports(t, l, mark{0, 1})
		ends(t, l, 0, false, "ok", 0)
		ends(t, l, api.Alive, true, "expired", 1)
	}
	l := active(t, counted(math.MaxInt))
	for n := range 1000 {
		ends(t, l, api.Alive, false, "failed", n+1)
	}
}

func TestStatusAndRunChangeNothing(t *testing.T) {
	l := active(t, counted(1))
	for range 5 {
		is(t, l, "ok", 0)
	}
	ends(t, l, api.Alive, false, "failed", 1)
	for range 5 {
		is(t, l, "failed", 1)
	}
	ends(t, l, api.Alive, true, "expired", 2)
}

// The README's motor.
func TestMotor(t *testing.T) {
	c, err := conf.Read("window 3 5\ncycle 2\ndelay 1\nentity motor 2\npoint start\npoint turn\ncount turn 1 3\ngap start turn 0 7\nedge start turn\nedge turn turn\nfirst start\nlast turn\n")
	answers(t, err, nil)
	l := local.New(c.Entities[0])
	answers(t, l.Report(0, 99), api.ErrIdle)
	begins(t, l)
	ends(t, l, 0, false, "ok", 0)
	reports(t, l, mark{0, 100}, mark{1, 107})
	ends(t, l, 0, false, "ok", 0)
	reports(t, l, mark{0, 110}, mark{1, 118})
	ends(t, l, api.Gaps, false, "failed", 1)
	ends(t, l, api.Alive, false, "failed", 2)
	ends(t, l, api.Alive, true, "expired", 3)
	reports(t, l, mark{0, 120}, mark{1, 121})
	ends(t, l, 0, false, "expired", 0)
	stops(t, l)
}

// P4

func TestLocalsShareNothing(t *testing.T) {
	e := counted(0)
	a, b := active(t, e), active(t, e)
	reports(t, a, mark{0, 1})
	ends(t, b, api.Alive, true, "expired", 1)
	is(t, a, "ok", 0)
	stops(t, b)
	ends(t, a, 0, false, "ok", 0)
}

// The entity is read again at each Begin: a change of it must not show there either.
func TestEntityIsOnlyRead(t *testing.T) {
	e, same := entity(1), entity(1)
	e.Last, same.Last = []int{2}, []int{2}
	l := local.New(e)
	look := func() {
		t.Helper()
		begins(t, l)
		ends(t, l, 0, false, "ok", 0)
		reports(t, l, mark{0, 10}, mark{1, 12})
		ends(t, l, 0, false, "ok", 0)
		reports(t, l, mark{0, 20}, mark{1, 24})
		ends(t, l, api.Gaps, false, "failed", 1)
		reports(t, l, mark{2, 30}, mark{0, 31}) // c is bad, and last
		ends(t, l, api.Flow, true, "expired", 2)
		stops(t, l)
	}
	look()
	if !reflect.DeepEqual(e, same) {
		t.Errorf("the entity is changed: %+v", e)
	}
	begins(t, l)
	e.Points[0], e.Gaps[0], e.Edges[0], e.Edges[1] = "z", api.Gap{From: 2, To: 2}, [2]int{2, 2}, [2]int{2, 2}
	e.First[0], e.Last[0] = 2, 0
	e.Tolerance, e.Count, e.Min, e.Max = 9, -1, 9, 9
	reports(t, l, mark{0, 1}, mark{1, 3})
	ends(t, l, 0, false, "ok", 0)
	stops(t, l)
	look()
}

// What lies behind the lists is none of them, at no Begin.
func TestBehindTheLists(t *testing.T) {
	points, first := []string{"a", "b"}, []int{0, 1}
	edges, pairs := [][2]int{{0, 0}, {0, 1}}, []api.Gap{{From: 0, To: 0, Max: 5}, {From: 1, To: 1}}
	l := local.New(api.Entity{Points: points[:1], Count: -1, Edges: edges[:1], First: first[:1], Gaps: pairs[:1], Last: first[:0]})
	for range 2 {
		begins(t, l)
		answers(t, l.Report(1, 1), api.ErrNone)
		reports(t, l, mark{0, 1})
		ends(t, l, api.Gaps, true, "expired", 1)
		reports(t, l, mark{0, 2}, mark{0, 7})
		ends(t, l, 0, false, "expired", 0)
		stops(t, l)
	}
	if !reflect.DeepEqual([]any{points, first, edges, pairs}, []any{[]string{"a", "b"}, []int{0, 1}, [][2]int{{0, 0}, {0, 1}}, []api.Gap{{From: 0, To: 0, Max: 5}, {From: 1, To: 1}}}) {
		t.Error("the lists are changed:", points, first, edges, pairs)
	}
}

// P82

// Each row of well and bad cycles: from the first run beyond the tolerance on all
// of them are expired, and only the first of these becomes so.
func TestExpiredStays(t *testing.T) {
	const cycles = 8
	for tolerance := range 4 {
		for row := range 1 << cycles {
			l := active(t, counted(tolerance))
			run, expired := 0, false
			for i := range cycles {
				kind := api.Alive
				run++
				if row>>i&1 == 1 {
					reports(t, l, mark{0, i})
					kind, run = 0, 0
				}
				becomes := !expired && run > tolerance
				expired = expired || becomes
				status := "ok"
				switch {
				case expired:
					status = "expired"
				case run > 0:
					status = "failed"
				}
				ends(t, l, kind, becomes, status, run)
			}
			stops(t, l)
			begins(t, l)
			ends(t, l, 0, false, "ok", 0)
		}
	}
}

// No call but Stop takes it away.
func TestOnlyStopEndsExpired(t *testing.T) {
	l := active(t, counted(0))
	ends(t, l, api.Alive, true, "expired", 1)
	for i := range 200 {
		reports(t, l, mark{0, i})
		answers(t, l.Begin(), api.ErrHeld)
		answers(t, l.Report(1, i), api.ErrNone)
		ends(t, l, 0, false, "expired", 0)
	}
	stops(t, l)
	begins(t, l)
	ends(t, l, 0, false, "ok", 0)
	ends(t, l, api.Alive, true, "expired", 1) // it becomes so once more
}

// P80 to P82, against all that was reported since it began

// kinds of these cycles, worked out from the first of them on.
func kinds(e api.Entity, cycles [][]mark) []int {
	a, g, f := alive.New(e), gaps.New(e), flow.New(e)
	var l []int
	for i, c := range cycles {
		for _, m := range c {
			a.Report(m.point)
			g.Report(m.point, m.tick)
			f.Report(m.point)
		}
		well := []bool{a.End(i > 0), g.End(), f.End()}
		l = append(l, slices.Index(well, false)+1)
	}
	return l
}

// runs at the ends of cycles of these kinds.
func runs(kinds []int) []int {
	var l []int
	for i := range kinds {
		n := 0
		for j := i; j >= 0 && kinds[j] != 0; j-- {
			n++
		}
		l = append(l, n)
	}
	return l
}

// statusOf an active one of these runs.
func statusOf(e api.Entity, runs []int) string {
	switch {
	case slices.ContainsFunc(runs, func(n int) bool { return n > max(e.Tolerance, 0) }):
		return "expired"
	case len(runs) > 0 && runs[len(runs)-1] > 0:
		return "failed"
	}
	return "ok"
}

// some entity of up to three points, with numbers at times that are none of them.
func some(r *rand.Rand) api.Entity {
	e := api.Entity{Points: []string{"a", "b", "c"}[:r.Intn(4)], Tolerance: r.Intn(4), Count: r.Intn(5) - 1, Min: r.Intn(2), Max: 1 + r.Intn(3)}
	list := func(n int) []int {
		l := make([]int, r.Intn(n))
		for i := range l {
			l[i] = r.Intn(4)
		}
		return l
	}
	for range r.Intn(3) {
		low := r.Intn(3)
		e.Gaps = append(e.Gaps, api.Gap{From: r.Intn(4), To: r.Intn(4), Min: low, Max: low + r.Intn(9)})
	}
	for range r.Intn(8) {
		e.Edges = append(e.Edges, [2]int{r.Intn(4), r.Intn(4)})
	}
	e.First, e.Last = list(4), list(2)
	return e
}

// told of a local in a search: the cycles since it began, the last of them open.
type told struct {
	active bool
	cycles [][]mark
}

func TestAgainstTheReports(t *testing.T) {
	r := rand.New(rand.NewSource(80))
	for range 2000 {
		e := some(r)
		l := local.New(e)
		var x told
		for tick := range 60 {
			step(t, r, e, l, &x, tick)
			if t.Failed() {
				t.Fatalf("%+v, %+v", e, x)
			}
		}
	}
}

func step(t *testing.T, r *rand.Rand, e api.Entity, l *local.Local, x *told, tick int) {
	t.Helper()
	switch n := r.Intn(30); {
	case n < 2:
		begin(t, l, x)
	case n == 2:
		stop(t, l, x)
	case n < 12:
		end(t, e, l, x)
	default:
		report(t, e, l, x, mark{r.Intn(len(e.Points)+2) - 1, tick})
	}
	if !x.active {
		is(t, l, "idle", 0)
		return
	}
	all := runs(kinds(e, x.cycles[:len(x.cycles)-1]))
	is(t, l, statusOf(e, all), append([]int{0}, all...)[len(all)])
}

func begin(t *testing.T, l *local.Local, x *told) {
	t.Helper()
	if x.active {
		answers(t, l.Begin(), api.ErrHeld)
		return
	}
	answers(t, l.Begin(), nil)
	*x = told{active: true, cycles: [][]mark{nil}}
}

func stop(t *testing.T, l *local.Local, x *told) {
	t.Helper()
	if !x.active {
		answers(t, l.Stop(), api.ErrIdle)
		return
	}
	answers(t, l.Stop(), nil)
	*x = told{}
}

func report(t *testing.T, e api.Entity, l *local.Local, x *told, m mark) {
	t.Helper()
	got := l.Report(m.point, m.tick)
	switch {
	case !x.active:
		answers(t, got, api.ErrIdle)
	case m.point < 0 || m.point >= len(e.Points):
		answers(t, got, api.ErrNone)
	default:
		answers(t, got, nil)
		i := len(x.cycles) - 1
		x.cycles[i] = append(x.cycles[i], m)
	}
}

func end(t *testing.T, e api.Entity, l *local.Local, x *told) {
	t.Helper()
	kind, expired := l.End()
	wantKind, wantExpired := 0, false
	if x.active {
		all := kinds(e, x.cycles)
		n := runs(all)
		wantKind = all[len(all)-1]
		wantExpired = statusOf(e, n) == "expired" && statusOf(e, n[:len(n)-1]) != "expired"
		x.cycles = append(x.cycles, nil)
	}
	if kind != wantKind || expired != wantExpired {
		t.Errorf("End: got %d, %t, want %d, %t", kind, expired, wantKind, wantExpired)
	}
}
