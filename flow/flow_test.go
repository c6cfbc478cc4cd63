package flow_test

import (
	"math"
	"math/rand"
	"reflect"
	"slices"
	"testing"

	"nightwatch/api"
	"nightwatch/flow"
)

const none = -1

var names = []string{"a", "b", "c", "d", "e", "f", "g", "h", "i", "j", "k", "l", "m", "n", "o", "p", "q"}

// entity of so many points.
func entity(points int, edges [][2]int, first, last []int) api.Entity {
	return api.Entity{Name: "e", Points: names[:points], Count: -1, Edges: edges, First: first, Last: last}
}

// line from a by b to c, round b as often as it likes.
func line() api.Entity {
	return entity(3, [][2]int{{0, 1}, {1, 1}, {1, 2}}, []int{0}, []int{2})
}

func report(f *flow.Flow, l ...int) {
	for _, p := range l {
		f.Report(p)
	}
}

// ends the cycle, with that point ahead on both sides; an empty one behind it is
// well, however it was.
func ends(t *testing.T, f *flow.Flow, want bool, at int) {
	t.Helper()
	is(t, f, at)
	if got := f.End(); got != want {
		t.Errorf("End: got %t, want %t", got, want)
	}
	is(t, f, at)
	if !f.End() {
		t.Error("End of a cycle without a report: got false")
	}
	is(t, f, at)
}

func is(t *testing.T, f *flow.Flow, at int) {
	t.Helper()
	if got := f.At(); got != at {
		t.Errorf("At: got %d, want %d", got, at)
	}
}

// cycle of these reports.
func cycle(t *testing.T, f *flow.Flow, want bool, at int, l ...int) {
	t.Helper()
	report(f, l...)
	ends(t, f, want, at)
}

// words counts the rows of n reports.
func words(t *testing.T, e api.Entity, n, want int) {
	t.Helper()
	if got, err := flow.Words(e, n); got != want || err != nil {
		t.Errorf("Words of %d: got %d, %v, want %d", n, got, err, want)
	}
}

func fails(t *testing.T, e api.Entity, n int) {
	t.Helper()
	if got, err := flow.Words(e, n); got != 0 || err != api.ErrBound {
		t.Errorf("Words of %d, %d points: got %d, %v, want %v", n, len(e.Points), got, err, api.ErrBound)
	}
}

// Points that an entity of three has not.
var noPoints = []int{3, 4, -1, -2, api.MaxPoints, math.MinInt, math.MaxInt}

// P70

func TestNoReportIsWell(t *testing.T) {
	ends(t, flow.New(line()), true, none)
	ends(t, flow.New(entity(3, nil, nil, nil)), true, none)
	ends(t, flow.New(api.Entity{}), true, none)
}

func TestAlongTheEdges(t *testing.T) {
	f := flow.New(line())
	cycle(t, f, true, 0, 0)
	cycle(t, f, true, 1, 1)
	cycle(t, f, true, 1, 1, 1)
	cycle(t, f, true, none, 2)
	cycle(t, f, true, 1, 0, 1, 2, 0, 1)
}

func TestFirstReportMustBeFirst(t *testing.T) {
	cycle(t, flow.New(line()), true, 0, 0)
	cycle(t, flow.New(line()), false, 1, 1)
	cycle(t, flow.New(line()), false, none, 2)
	two := entity(3, [][2]int{{0, 1}}, []int{2, 1}, nil)
	cycle(t, flow.New(two), false, 0, 0)
	cycle(t, flow.New(two), true, 1, 1)
	cycle(t, flow.New(two), true, 2, 2)
}

// Without a First there are edges that nobody comes to.
func TestNoFirstAtAll(t *testing.T) {
	f := flow.New(entity(2, [][2]int{{0, 1}, {1, 0}}, nil, []int{1}))
	cycle(t, f, false, 0, 0)
	cycle(t, f, true, none, 1)
	cycle(t, f, false, 0, 0)
}

func TestEdgesGoOneWay(t *testing.T) {
	f := flow.New(entity(3, [][2]int{{0, 1}, {1, 2}}, []int{0}, nil))
	cycle(t, f, true, 1, 0, 1)
	cycle(t, f, false, 0, 0)
	cycle(t, f, false, 2, 2) // nor from a to c by way of b
	cycle(t, f, false, 1, 1)
	cycle(t, f, false, 1, 1) // nor from b to b
}

// First is asked only where none is ahead.
func TestFirstIsNoEdge(t *testing.T) {
	f := flow.New(line())
	cycle(t, f, true, 0, 0)
	cycle(t, f, false, 0, 0)
	cycle(t, f, true, 1, 1)
	cycle(t, f, false, 0, 0)
}

func TestBehindLastNoneIsAhead(t *testing.T) {
	f := flow.New(entity(3, [][2]int{{0, 1}, {1, 2}, {2, 2}}, []int{0}, []int{1, 2}))
	cycle(t, f, true, none, 0, 1)
	cycle(t, f, false, none, 2) // the edge from b to c is none: b was Last
	cycle(t, f, false, none, 2)
	cycle(t, f, true, 0, 0)
	cycle(t, f, true, none, 1, 0, 1, 0, 1)
}

// Who is First and Last is reported as often as it likes.
func TestFirstThatIsLast(t *testing.T) {
	f := flow.New(entity(2, [][2]int{{0, 1}}, []int{1}, []int{1}))
	cycle(t, f, true, none, 1, 1, 1)
	cycle(t, f, false, 0, 0)
	cycle(t, f, true, none, 1)
	cycle(t, f, true, none, 1)
}

// A bad report is ahead of the next one as a well one is, also a Last.
func TestBadReportIsAheadToo(t *testing.T) {
	f := flow.New(line())
	cycle(t, f, false, 1, 1)
	cycle(t, f, true, none, 1, 2)
	cycle(t, f, false, none, 2)
	cycle(t, f, true, 0, 0)
	cycle(t, f, false, none, 2)
	cycle(t, f, true, 1, 0, 1)
}

func TestOneBadMakesTheCycleBad(t *testing.T) {
	f := flow.New(line())
	cycle(t, f, true, 1, 0, 1)
	cycle(t, f, false, 1, 0, 1, 1, 1) // the first one
	cycle(t, f, false, 1, 1, 2, 1, 1) // one in the middle
	cycle(t, f, false, 0, 1, 1, 1, 0) // the last one
	cycle(t, f, true, none, 1, 1, 1, 2)
}

// The cycles of nothing between make no difference, and the edge goes across them.
func TestAheadStaysFromCycleToCycle(t *testing.T) {
	f := flow.New(line())
	for _, p := range []int{0, 1, 1} {
		cycle(t, f, true, p, p)
		for range 5 {
			ends(t, f, true, p)
		}
	}
	cycle(t, f, true, none, 2)
	cycle(t, f, false, 1, 1)
}

func TestPointsThatThereAreNot(t *testing.T) {
	for _, p := range noPoints {
		f := flow.New(line())
		cycle(t, f, false, none, p)
		cycle(t, f, false, none, p, p)
		cycle(t, f, true, 1, 0, 1)
		cycle(t, f, false, none, p)
		cycle(t, f, false, 1, 1) // none is ahead any more
		cycle(t, f, false, none, 2, p)
		cycle(t, f, false, 0, p, 0)
	}
}

// Nor do edges, First and Last of points that there are not make one.
func TestEdgesOfPointsThatThereAreNot(t *testing.T) {
	for _, p := range noPoints {
		f := flow.New(entity(3, [][2]int{{0, p}, {p, p}, {p, 1}, {0, 1}}, []int{p, 0}, []int{p, 1}))
		cycle(t, f, false, none, p)
		cycle(t, f, false, none, p)
		cycle(t, f, true, 0, 0)
		cycle(t, f, false, none, p)
		cycle(t, f, false, none, 1)
		cycle(t, f, true, none, 0, 1)
		// These are edges, though none of them can be gone.
		f = flow.New(entity(3, [][2]int{{p, p}}, []int{0}, nil))
		cycle(t, f, true, 0, 0)
		cycle(t, f, false, 1, 1)
		cycle(t, f, false, none, p)
		// An edge from p to a is not one from nowhere to a.
		f = flow.New(entity(3, [][2]int{{p, 1}, {0, 1}}, nil, nil))
		cycle(t, f, false, 1, 1)
		cycle(t, f, false, none, p)
		cycle(t, f, false, 1, 1)
	}
	for _, p := range []int{0, none, 1, math.MinInt, math.MaxInt} {
		f := flow.New(entity(0, [][2]int{{p, p}}, []int{p}, nil))
		cycle(t, f, false, none, p)
		cycle(t, f, false, none, p)
	}
}

// Without edges each order may be; the point is ahead all the same.
func TestWithoutEdges(t *testing.T) {
	for _, edges := range [][][2]int{nil, {}} {
		f := flow.New(entity(3, edges, nil, nil))
		cycle(t, f, true, 2, 2)
		cycle(t, f, true, 0, 2, 1, 1, 0)
		for _, p := range noPoints {
			cycle(t, f, true, 1, p, 1)
			cycle(t, f, true, none, p)
			cycle(t, f, true, none, p, p)
		}
		f = flow.New(entity(3, edges, []int{0}, []int{2}))
		cycle(t, f, true, 1, 1)
		cycle(t, f, true, none, 0, 2)
		cycle(t, f, true, 1, 1)
		cycle(t, f, true, none, noPoints...)
	}
	cycle(t, flow.New(api.Entity{}), true, none, 0, 1, -1)
}

// New takes entities that no config could have.
func TestEntitiesOfNoConfig(t *testing.T) {
	f := flow.New(entity(2, [][2]int{{0, 1}, {0, 1}, {0, 1}}, []int{0, 0}, []int{1, 1}))
	cycle(t, f, true, none, 0, 1, 0, 1)
	cycle(t, f, false, 0, 0, 0)
	many := api.Entity{Points: make([]string, 10*api.MaxPoints), First: []int{0}}
	for i := range len(many.Points) - 1 {
		many.Edges = append(many.Edges, [2]int{i, i + 1})
	}
	f = flow.New(many)
	for i := range many.Points {
		cycle(t, f, true, i, i)
	}
	cycle(t, f, false, none, len(many.Points))
}

func TestFlowsShareNothing(t *testing.T) {
	e := line()
	a, b := flow.New(e), flow.New(e)
	report(a, 0, 0)
	ends(t, b, true, none)
	cycle(t, b, true, none, 0, 1, 2)
	ends(t, a, false, 0)
	cycle(t, a, true, 1, 1)
}

// P4
func TestEntityIsOnlyRead(t *testing.T) {
	points := []string{"a", "b", "c"}
	edges := [][2]int{{0, 1}, {1, 0}}
	first, last := []int{0, 1}, []int{1, 0}
	e := api.Entity{Points: points[:2], Edges: edges[:1], First: first[:1], Last: last[:1]}
	f := flow.New(e)
	look := func() {
		t.Helper()
		cycle(t, f, false, none, 1) // what lies behind the lists is none of them
		cycle(t, f, false, none, 2)
		cycle(t, f, true, none, 0, 1)
		cycle(t, f, false, none, 0, 0, 1)
	}
	look()
	words(t, e, 3, 1)
	if !reflect.DeepEqual([]any{points, edges, first, last}, []any{[]string{"a", "b", "c"}, [][2]int{{0, 1}, {1, 0}}, []int{0, 1}, []int{1, 0}}) {
		t.Error("the entity is changed:", points, edges, first, last)
	}
	points[0], edges[0], first[0], last[0] = "x", [2]int{0, 0}, 1, 0
	look()
}

// ahead works out of all reports which one is ahead of the next.
func ahead(e api.Entity, l []int) int {
	if len(l) == 0 {
		return none
	}
	p := l[len(l)-1]
	if p < 0 || p >= len(e.Points) || slices.Contains(e.Last, p) {
		return none
	}
	return p
}

// isWell holds a report against those ahead of it.
func isWell(e api.Entity, l []int, point int) bool {
	at := ahead(e, l)
	switch {
	case len(e.Edges) == 0:
		return true
	case point < 0 || point >= len(e.Points):
		return false
	case at == none:
		return slices.Contains(e.First, point)
	}
	return slices.Contains(e.Edges, [2]int{at, point})
}

// some entity of one to four points; if it may be wrong, with numbers that are none of them too.
func some(r *rand.Rand, wrong bool) api.Entity {
	points := 1 + r.Intn(4)
	list := func(n int) []int {
		l := make([]int, r.Intn(n))
		for i := range l {
			l[i] = number(r, points, wrong)
		}
		return l
	}
	edges := make([][2]int, r.Intn(12))
	for i := range edges {
		edges[i] = [2]int{number(r, points, wrong), number(r, points, wrong)}
	}
	return entity(points, edges, list(4), list(3))
}

// number of a point; if it may be wrong, at times one beside them.
func number(r *rand.Rand, points int, wrong bool) int {
	if wrong {
		return r.Intn(points+2) - 1
	}
	return r.Intn(points)
}

func TestAgainstTheReports(t *testing.T) {
	r := rand.New(rand.NewSource(70))
	for n := range 3000 {
		e := some(r, n%2 == 0)
		f := flow.New(e)
		var l []int
		well := true
		for range 40 {
			if r.Intn(4) == 0 {
				ends(t, f, well, ahead(e, l))
				well = true
				continue
			}
			p := number(r, len(e.Points), n%3 == 0)
			f.Report(p)
			well = well && isWell(e, l, p)
			l = append(l, p)
			is(t, f, ahead(e, l))
		}
	}
}

// P71

func TestWordsAlongTheEdges(t *testing.T) {
	// a, ab, abb or abc, abbb or abbc or abca ..
	for n, want := range []int{1, 1, 1, 2, 3, 4, 6, 9, 13, 19, 28, 41, 60, 88, 129, 189} {
		words(t, line(), n, want)
	}
	// a and b one behind the other, from either on.
	for n := 1; n <= 15; n++ {
		words(t, entity(2, [][2]int{{0, 1}, {1, 0}}, []int{0, 1}, nil), n, 2)
	}
}

func TestWordsThatEnd(t *testing.T) {
	for n, want := range []int{1, 1, 1, 0, 0} {
		words(t, entity(2, [][2]int{{0, 1}}, []int{0}, nil), n, want)
	}
	for n := range 16 {
		words(t, entity(2, [][2]int{{0, 1}}, []int{0}, []int{1}), n, 1) // begun again
		words(t, entity(2, [][2]int{{0, 1}}, []int{0, 0}, []int{1, 1}), n, 1)
		words(t, entity(2, [][2]int{{0, 1}, {0, 1}}, []int{0}, []int{1}), n, 1)
	}
	for n, want := range []int{1, 0, 0} {
		words(t, entity(2, [][2]int{{0, 1}, {0, 0}, {1, 1}, {1, 0}}, nil, nil), n, want)
	}
}

func TestWordsWithoutEdges(t *testing.T) {
	for points := range api.MaxPoints + 1 {
		power := 1
		for n := range 16 {
			words(t, entity(points, nil, nil, nil), n, power)
			words(t, entity(points, [][2]int{}, []int{0}, []int{0, 1}), n, power)
			power *= points
		}
	}
}

// With all edges there are as many as without one: the greatest number is an int.
func TestWordsWithAllEdges(t *testing.T) {
	var edges [][2]int
	var all []int
	for i := range api.MaxPoints {
		all = append(all, i)
		for j := range api.MaxPoints {
			edges = append(edges, [2]int{i, j})
		}
	}
	power := 1
	for n := range 16 {
		words(t, entity(api.MaxPoints, edges, all, nil), n, power)
		words(t, entity(api.MaxPoints, edges, all, all), n, power)
		words(t, entity(api.MaxPoints, edges[:1], all, all), n, power)
		power *= api.MaxPoints
	}
}

func TestWordsOfNoPoint(t *testing.T) {
	for _, e := range []api.Entity{{}, entity(0, nil, []int{0}, nil), entity(0, [][2]int{{0, 0}}, []int{0}, []int{0}), entity(0, [][2]int{{-1, -1}}, []int{-1}, nil)} {
		words(t, e, 0, 1)
		words(t, e, 1, 0)
		words(t, e, 15, 0)
	}
}

// Reports are of the points that there are.
func TestWordsOfPointsThatThereAreNot(t *testing.T) {
	for _, p := range noPoints {
		e := entity(3, [][2]int{{0, p}, {p, p}, {p, 1}, {0, 1}}, []int{p, 0}, []int{p, 1})
		for n := range 16 {
			words(t, e, n, 1)
		}
		for n, want := range []int{1, 1, 0, 0} {
			words(t, entity(3, [][2]int{{p, p}}, []int{0}, nil), n, want)
		}
	}
}

func TestWordsBounds(t *testing.T) {
	for _, e := range []api.Entity{line(), {}, entity(api.MaxPoints, nil, nil, nil)} {
		for _, n := range []int{-1, -2, 16, 17, math.MinInt, math.MaxInt} {
			fails(t, e, n)
		}
		for _, n := range []int{0, 15} {
			if _, err := flow.Words(e, n); err != nil {
				t.Errorf("Words of %d: %v", n, err)
			}
		}
	}
	for _, n := range []int{-1, 0, 1, 15, 16} {
		fails(t, entity(api.MaxPoints+1, nil, nil, nil), n)
		fails(t, entity(api.MaxPoints+1, [][2]int{{0, 1}}, []int{0}, nil), n)
		fails(t, api.Entity{Points: make([]string, 5000)}, n)
	}
}

// P72

// rows of n reports of so many points, all of them.
func rows(points, n int) [][]int {
	if n == 0 {
		return [][]int{nil}
	}
	var all [][]int
	for _, l := range rows(points, n-1) {
		for p := range points {
			all = append(all, append(slices.Clone(l), p))
		}
	}
	return all
}

// inCycles reports the row in cycles of so many reports; was each of them well?
func inCycles(e api.Entity, l []int, size int) bool {
	f := flow.New(e)
	well := true
	for c := range slices.Chunk(l, size) {
		report(f, c...)
		well = f.End() && well
	}
	return well
}

func rowIsWell(e api.Entity, l []int) bool { return inCycles(e, l, len(l)+1) }

// Each row is held against its beginnings, and the well ones are counted.
func TestRowsAndTheirBeginnings(t *testing.T) {
	r := rand.New(rand.NewSource(72))
	for n := range 300 {
		e := some(r, n%2 == 0)
		for length := range 6 {
			number := 0
			for _, l := range rows(len(e.Points), length) {
				well := rowIsWell(e, l)
				each := true
				for i := range l {
					each = each && rowIsWell(e, l[:i]) && isWell(e, l[:i], l[i])
				}
				if well != each || well != inCycles(e, l, 1) || well != inCycles(e, l, 2) {
					t.Fatalf("%v of %v: well is %t, of each beginning %t", l, e, well, each)
				}
				if well {
					number++
				}
			}
			words(t, e, length, number)
		}
	}
}

// A row that is not well is not made well by what comes behind it.
func TestNothingMendsARow(t *testing.T) {
	f := flow.New(line())
	report(f, 1)
	for range 50 {
		report(f, 1, 2, 0, 1)
	}
	ends(t, f, false, 1)
}
