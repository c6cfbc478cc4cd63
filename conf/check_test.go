package conf_test

import (
	"math"
	"reflect"
	"slices"
	"strconv"
	"strings"
	"testing"

	"nightwatch/api"
	"nightwatch/conf"
)

// Errors of a whole config are bare: == and not errors.Is.
func fails(t *testing.T, err, want error) {
	t.Helper()
	if err != want {
		t.Errorf("got error %v, want %v, bare", err, want)
	}
}

func faults(t *testing.T, err error, at int, want error) {
	t.Helper()
	f, ok := err.(*api.Fault)
	if !ok {
		t.Errorf("got error %v, want a fault At %d: %v", err, at, want)
	} else if f.At != at || f.Err != want {
		t.Errorf("got a fault At %d: %v, want At %d: %v", f.At, f.Err, at, want)
	}
}

// full is a right config, made anew: one entity without anything, one with all.
func full() api.Config {
	return api.Config{Closed: 3, Open: 5, Cycle: 2, Delay: 1, Entities: []api.Entity{
		{Name: "idle", Count: -1},
		{
			Name: "motor", Tolerance: 2, Points: []string{"a", "b-2", "c"}, Count: 1, Min: 1, Max: 3,
			Gaps:  []api.Gap{{From: 0, To: 1, Min: 0, Max: 7}, {From: 2, To: 2, Min: 4, Max: 4}},
			Edges: [][2]int{{0, 1}, {1, 0}, {1, 2}},
			First: []int{0, 2},
			Last:  []int{1},
		},
	}}
}

func names(n int) []string {
	var l []string
	for i := range n {
		l = append(l, "p"+strconv.Itoa(i))
	}
	return l
}

func numbers(n int) []int {
	var l []int
	for i := range n {
		l = append(l, i)
	}
	return l
}

func edges(n int) [][2]int {
	var l [][2]int
	for i := range n {
		l = append(l, [2]int{i / api.MaxPoints, i % api.MaxPoints})
	}
	return l
}

// great is an entity that has as much of all as may be.
func great(name string) api.Entity {
	g := api.Gap{From: api.MaxPoints - 1, To: 0, Min: api.MaxTick, Max: api.MaxTick}
	return api.Entity{
		Name: name, Tolerance: api.MaxTolerance, Points: names(api.MaxPoints), Count: api.MaxPoints - 1,
		Min: api.MaxCount - 1, Max: api.MaxCount - 1, Gaps: slices.Repeat([]api.Gap{g}, api.MaxGaps),
		Edges: edges(api.MaxEdges), First: numbers(api.MaxPoints), Last: numbers(api.MaxPoints),
	}
}

// P40

func TestCheckOfRightConfigs(t *testing.T) {
	for i, change := range []func(c *api.Config){
		func(c *api.Config) {},
		func(c *api.Config) { *c = api.Config{Open: 1, Cycle: 1} },
		func(c *api.Config) { c.Closed, c.Open = 0, 2 },
		func(c *api.Config) { c.Closed, c.Open, c.Cycle = api.MaxWindow, api.MaxWindow, api.MaxCycle },
		func(c *api.Config) { c.Open, c.Cycle = api.MaxCycle, api.MaxCycle },
		func(c *api.Config) { c.Cycle, c.Delay = 1, 0 },
		func(c *api.Config) { c.Delay = api.MaxDelay },
		func(c *api.Config) { c.Entities = []api.Entity{} },
		func(c *api.Config) { c.Entities[0] = great("g") },
		func(c *api.Config) {
			c.Entities = nil
			for _, s := range names(api.MaxEntities) {
				c.Entities = append(c.Entities, great(s))
			}
		},
		func(c *api.Config) { c.Entities[1].Count, c.Entities[1].Min, c.Entities[1].Max = 2, 0, 0 },
		func(c *api.Config) { c.Entities[1].Count, c.Entities[1].Min, c.Entities[1].Max = -1, 0, 0 },
		func(c *api.Config) { c.Entities[1].Count = 0 },
		func(c *api.Config) { c.Entities[1].Gaps[0] = c.Entities[1].Gaps[1] },
		func(c *api.Config) { c.Entities[1].Last = nil },
		func(c *api.Config) { c.Entities[1].Edges = [][2]int{{0, 0}} },
		func(c *api.Config) { e := &c.Entities[1]; e.Edges, e.First, e.Last = nil, nil, nil },
		func(c *api.Config) { c.Entities[1].Points[0] = c.Entities[1].Name },
		func(c *api.Config) { c.Entities[0].Points = []string{"a"} },
	} {
		c := full()
		change(&c)
		if err := conf.Check(c); err != nil {
			t.Errorf("%d: %+v: %v", i, c, err)
		}
	}
}

func TestCheckNames(t *testing.T) {
	right := []string{"a", "z", "a-", "a--b", "z9", "a0-", "motor", "entity", strings.Repeat("x", api.MaxName)}
	wrong := []string{
		"", "-", "-a", "0", "9a", "A", "aB", "a b", " a", "a ", "a_b", "a.b", "a\n", "a\x00", "a`", "a{", "a/", "a:", "a,", "`", "{",
		"é", "aé", "a\xff", "а", strings.Repeat("x", api.MaxName+1), strings.Repeat("é", api.MaxName/2),
	}
	for _, s := range right {
		c := full()
		c.Entities[1].Name, c.Entities[1].Points[1] = s, s+"x"
		if len(s) == api.MaxName {
			c.Entities[1].Points[1] = s
		}
		fails(t, conf.Check(c), nil)
	}
	for _, s := range wrong {
		c := full()
		c.Entities[0].Name = s
		faults(t, conf.Check(c), 0, api.ErrName)
		c = full()
		c.Entities[1].Points[2] = s
		faults(t, conf.Check(c), 1, api.ErrName)
	}
}

func TestCheckOfTheWhole(t *testing.T) {
	for i, w := range []struct {
		change func(c *api.Config)
		want   error
	}{
		{func(c *api.Config) { c.Closed = -1 }, api.ErrBound},
		{func(c *api.Config) { c.Closed = api.MaxWindow + 1 }, api.ErrBound},
		{func(c *api.Config) { c.Closed = math.MinInt }, api.ErrBound},
		{func(c *api.Config) { c.Open = 0 }, api.ErrBound},
		{func(c *api.Config) { c.Open = -1 }, api.ErrBound},
		{func(c *api.Config) { c.Open = api.MaxWindow + 1 }, api.ErrBound},
		{func(c *api.Config) { c.Open = math.MaxInt }, api.ErrBound},
		{func(c *api.Config) { c.Cycle = 0 }, api.ErrBound},
		{func(c *api.Config) { c.Cycle = -1 }, api.ErrBound},
		{func(c *api.Config) { c.Open, c.Cycle = api.MaxWindow, api.MaxCycle+1 }, api.ErrBound},
		{func(c *api.Config) { c.Cycle = api.MaxCycle + 1 }, api.ErrBound},
		{func(c *api.Config) { c.Delay = -1 }, api.ErrBound},
		{func(c *api.Config) { c.Delay = api.MaxDelay + 1 }, api.ErrBound},
		{func(c *api.Config) { c.Entities = make([]api.Entity, api.MaxEntities+1) }, api.ErrBound},
		{func(c *api.Config) { c.Cycle = 6 }, api.ErrShape},
		{func(c *api.Config) { c.Open, c.Cycle = 1, 2 }, api.ErrShape},
		{func(c *api.Config) { c.Cycle, c.Closed = 6, -1 }, api.ErrBound},
		{func(c *api.Config) { c.Cycle, c.Delay = 6, -1 }, api.ErrBound},
		{func(c *api.Config) { c.Cycle, c.Entities = 6, make([]api.Entity, api.MaxEntities+1) }, api.ErrBound},
		{func(c *api.Config) { c.Cycle, c.Entities[0].Name = 6, "" }, api.ErrShape},
		{func(c *api.Config) { c.Delay, c.Entities[0].Name = -1, "" }, api.ErrBound},
		{func(c *api.Config) { *c = api.Config{} }, api.ErrBound},
	} {
		c := full()
		w.change(&c)
		if err := conf.Check(c); err != w.want {
			t.Errorf("%d: got error %v, want %v", i, err, w.want)
		}
	}
}

// flaws of an entity, in the order in which they are told. Two of one part are
// not made together: the one would be over the other.
var flaws = []struct {
	part string
	make func(e *api.Entity)
	want error
}{
	{"name", func(e *api.Entity) { e.Name = "Motor" }, api.ErrName},
	{"name", func(e *api.Entity) { e.Name = "idle" }, api.ErrExist},
	{"tolerance", func(e *api.Entity) { e.Tolerance = -1 }, api.ErrBound},
	{"tolerance", func(e *api.Entity) { e.Tolerance = api.MaxTolerance + 1 }, api.ErrBound},
	{"points", func(e *api.Entity) { e.Points = names(api.MaxPoints + 1) }, api.ErrBound},
	{"gaps", func(e *api.Entity) { e.Gaps = make([]api.Gap, api.MaxGaps+1) }, api.ErrBound},
	{"edges", func(e *api.Entity) { e.Edges = make([][2]int, api.MaxEdges+1) }, api.ErrBound},
	{"first", func(e *api.Entity) { e.First = make([]int, api.MaxPoints+1) }, api.ErrBound},
	{"last", func(e *api.Entity) { e.Last = make([]int, api.MaxPoints+1) }, api.ErrBound},
	{"points", func(e *api.Entity) { e.Points[0] = "" }, api.ErrName},
	{"points", func(e *api.Entity) { e.Points[1], e.Points[2] = "B", "a" }, api.ErrName},
	{"points", func(e *api.Entity) { e.Points[1], e.Points[2] = "a", "B" }, api.ErrExist},
	{"points", func(e *api.Entity) { e.Points[2] = "a" }, api.ErrExist},
	{"count", func(e *api.Entity) { e.Count = -2 }, api.ErrNone},
	{"count", func(e *api.Entity) { e.Count = 3 }, api.ErrNone},
	{"count", func(e *api.Entity) { e.Count = math.MaxInt }, api.ErrNone},
	{"gaps", func(e *api.Entity) { e.Gaps[1].From = -1 }, api.ErrNone},
	{"gaps", func(e *api.Entity) { e.Gaps[0].To = 3 }, api.ErrNone},
	{"edges", func(e *api.Entity) { e.Edges[0][0] = 3 }, api.ErrNone},
	{"edges", func(e *api.Entity) { e.Edges[2][1] = -1 }, api.ErrNone},
	{"first", func(e *api.Entity) { e.First[1] = 3 }, api.ErrNone},
	{"first", func(e *api.Entity) { e.First = []int{-1, -1} }, api.ErrNone},
	{"last", func(e *api.Entity) { e.Last[0] = -1 }, api.ErrNone},
	{"last", func(e *api.Entity) { e.Last = []int{1, 1, 3} }, api.ErrNone},
	{"count", func(e *api.Entity) { e.Count = -1 }, api.ErrShape},
	{"most", func(e *api.Entity) { e.Min, e.Max = 2, 1 }, api.ErrBound},
	{"most", func(e *api.Entity) { e.Min = -1 }, api.ErrBound},
	{"most", func(e *api.Entity) { e.Max = api.MaxCount }, api.ErrBound},
	{"gaps", func(e *api.Entity) { e.Gaps[1].Min = 5 }, api.ErrBound},
	{"gaps", func(e *api.Entity) { e.Gaps[0].Min = -1 }, api.ErrBound},
	{"gaps", func(e *api.Entity) { e.Gaps[1].Max = api.MaxTick + 1 }, api.ErrBound},
	{"edges", func(e *api.Entity) { e.Edges[2] = e.Edges[0] }, api.ErrExist},
	{"first", func(e *api.Entity) { e.First[1] = e.First[0] }, api.ErrExist},
	{"last", func(e *api.Entity) { e.Last = []int{1, 0, 1} }, api.ErrExist},
	{"first", func(e *api.Entity) { e.First = nil }, api.ErrShape},
	{"edges", func(e *api.Entity) { e.Edges = nil }, api.ErrShape},
}

func TestCheckTellsTheFirstFlaw(t *testing.T) {
	for i, f := range flaws {
		for j, g := range flaws[i:] {
			if j > 0 && g.part == f.part {
				continue
			}
			c := full()
			g.make(&c.Entities[1])
			f.make(&c.Entities[1])
			faults(t, conf.Check(c), 1, f.want)
			if t.Failed() {
				t.Fatalf("flaws %d and %d: %+v", i, i+j, c.Entities[1])
			}
		}
	}
}

func TestCheckTellsTheFirstEntity(t *testing.T) {
	for _, f := range flaws[2:] {
		c := full()
		motor := c.Entities[1]
		c.Entities = append(c.Entities, full().Entities[1])
		c.Entities[2].Name = "-"
		f.make(&c.Entities[1])
		faults(t, conf.Check(c), 1, f.want)
		c = full()
		c.Entities[0] = motor
		c.Entities[1] = full().Entities[1]
		c.Entities[1].Name = "idle"
		f.make(&c.Entities[0])
		faults(t, conf.Check(c), 0, f.want)
	}
	c := full()
	c.Entities = append(c.Entities, c.Entities[0])
	faults(t, conf.Check(c), 2, api.ErrExist)
}

func TestCheckWithoutCount(t *testing.T) {
	for _, n := range [][2]int{{0, 1}, {1, 0}, {1, 1}, {-1, 0}, {0, -1}, {0, api.MaxCount}} {
		c := full()
		c.Entities[0].Min, c.Entities[0].Max = n[0], n[1]
		faults(t, conf.Check(c), 0, api.ErrShape)
	}
	c := full()
	c.Entities[0].Count = 0
	faults(t, conf.Check(c), 0, api.ErrNone)
}

func TestCheckWithoutEdges(t *testing.T) {
	for _, w := range []struct{ first, last []int }{{[]int{0}, nil}, {nil, []int{0}}, {[]int{0}, []int{0}}, {[]int{}, []int{0}}} {
		c := full()
		e := &c.Entities[1]
		e.Edges, e.First, e.Last = [][2]int{}, w.first, w.last
		faults(t, conf.Check(c), 1, api.ErrShape)
	}
}

// What is handed over stays as it was, behind the lists' lengths too.
func TestCheckAndTextOnlyRead(t *testing.T) {
	c, want := full(), full()
	for _, x := range []*api.Config{&c, &want} {
		e := &x.Entities[1]
		e.Points = append(e.Points, "NO")[:3]
		e.Last = append(e.Last, 99)[:1]
		e.Edges = append(e.Edges, [2]int{9, 9})[:3]
	}
	fails(t, conf.Check(c), nil)
	_, err := conf.Text(c)
	fails(t, err, nil)
	whole := func(c api.Config) []any {
		e := c.Entities[1]
		return []any{c, e.Points[:4], e.Last[:2], e.Edges[:4]}
	}
	if !reflect.DeepEqual(whole(c), whole(want)) {
		t.Errorf("got %+v, want %+v", whole(c), whole(want))
	}
}
