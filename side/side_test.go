package side_test

import (
	"math"
	"reflect"
	"slices"
	"strings"
	"testing"

	"nightwatch/api"
	"nightwatch/cells"
	"nightwatch/conf"
	"nightwatch/keeper"
	"nightwatch/play"
	"nightwatch/side"
)

const most = 100 // scripts, or texts, of one call

// What a script's numbers say.
const (
	begin   = 4 // of entity 0
	boot    = 7
	ticks15 = 15<<3 | 3
)

func cut(n int) int { return n<<3 | 6 }

// motor must turn in each cycle of two ticks.
const motor = "window 1 3\ncycle 2\ndelay 1\nentity motor 0\npoint turn\ncount turn 1 3\n"

func read(t *testing.T, s string) api.Config {
	t.Helper()
	c, err := conf.Read(s)
	if err != nil {
		t.Fatal(err)
	}
	return c
}

// told is what the same calls tell that are made by hand.
func told(t *testing.T, c api.Config, script []int) side.Told {
	t.Helper()
	n, err := cells.New(api.MaxBytes)
	if err != nil {
		t.Fatal(err)
	}
	k, err := keeper.New(c, n)
	if err != nil {
		t.Fatal(err)
	}
	l := play.Run(k, n, script)
	return side.Told{Answers: l, Log: k.Log(), State: k.State(), Kicks: k.Kicks()}
}

func sameTold(a, b side.Told) bool {
	return slices.Equal(a.Answers, b.Answers) && slices.Equal(a.Log, b.Log) && a.State == b.State && a.Kicks == b.Kicks
}

// plays is what scripts must tell, by so many workers.
func plays(t *testing.T, c api.Config, scripts [][]int, workers int, want []side.Told) {
	t.Helper()
	l, err := side.Plays(c, scripts, workers)
	if err != nil || !slices.EqualFunc(l, want, sameTold) {
		t.Errorf("by %d: got %v, %v, want %v", workers, l, err, want)
	}
}

// reads is what texts must be, by so many workers.
func reads(t *testing.T, l []string, workers int, want []api.Config) {
	t.Helper()
	x, err := side.Reads(l, workers)
	if err != nil || len(x) != len(want) || len(x) > 0 && !reflect.DeepEqual(x, want) {
		t.Errorf("by %d: got %v, %v, want %v", workers, x, err, want)
	}
}

// isBare tells whether it is this error, without a place.
func isBare(t *testing.T, err, want error) {
	t.Helper()
	if err != want {
		t.Errorf("got %#v, want %v", err, want)
	}
}

// isAt tells whether it is this error, once, with this place.
func isAt(t *testing.T, err error, at int, want error) {
	t.Helper()
	f, ok := err.(*api.Fault)
	if !ok || f.At != at || f.Err != want {
		t.Errorf("got %#v, want %v at %d", err, want, at)
	}
}

func noPlays(t *testing.T, c api.Config, scripts [][]int, workers int) error {
	t.Helper()
	l, err := side.Plays(c, scripts, workers)
	if len(l) > 0 || err == nil {
		t.Errorf("by %d: got %v, %v", workers, l, err)
	}
	return err
}

func noReads(t *testing.T, l []string, workers int) error {
	t.Helper()
	x, err := side.Reads(l, workers)
	if len(x) > 0 || err == nil {
		t.Errorf("by %d: got %v, %v", workers, x, err)
	}
	return err
}

// P120: the plays, the reads, and their errors.

// The numbers here are worked out from the chapters, not by the program: the
// motor is expired at tick 4 and stopped at 6; the last kick is that at 4, so
// that the dog is reset at 9.
func TestPlays(t *testing.T) {
	plays(t, read(t, motor), [][]int{
		{begin, ticks15},
		nil,
		{begin, 0, 1, 0, 1},
		{ticks15},
		{begin, cut(9), ticks15, -1},
		{begin, ticks15, boot, begin, ticks15, boot},
	}, 3, []side.Told{
		{Answers: []int{0, 11}, Log: []api.Record{{Seq: 1, Kind: api.Alive, Tick: 4}}, State: "reset", Kicks: 2},
		{State: "on"},
		{Answers: []int{0, 0, 0, 0, 0}, Log: []api.Record{{Seq: 1, Kind: api.Alive, Tick: 4}}, State: "on", Kicks: 2},
		{Answers: []int{0}, State: "on", Kicks: 7},
		{Answers: []int{0, 0, 8, -1}, State: "off", Kicks: 1},
		// The second window begins at 9: a kick at 12, where it is expired.
		{Answers: []int{0, 11, 0, 0, 11, 0}, Log: []api.Record{{Seq: 1, Kind: api.Alive, Tick: 4}, {Seq: 2, Kind: api.Alive, Tick: 12}}, State: "on", Kicks: 3},
	})
}

// A script's keeper and cells are its own: in each play of the same script the
// log begins with its first record, and power is on.
func TestPlaysShareNothing(t *testing.T) {
	c := read(t, motor)
	for _, script := range [][]int{{begin, ticks15}, {begin, cut(3), ticks15}, {begin}} {
		want := slices.Repeat([]side.Told{told(t, c, script)}, most)
		for _, workers := range []int{1, 2, api.Workers} {
			plays(t, c, slices.Repeat([][]int{script}, most), workers, want)
		}
	}
}

// The cells have room for a log that goes round.
func TestLongLog(t *testing.T) {
	c := read(t, "window 1 3\ncycle 2\ndelay 0\nentity motor 0\npoint turn\ncount turn 1 3\n")
	script := slices.Repeat([]int{begin, ticks15, boot}, 20)
	l, err := side.Plays(c, [][]int{script}, 1)
	if err != nil || len(l) != 1 || len(l[0].Log) != api.LogSize || l[0].Log[api.LogSize-1].Seq != 20 {
		t.Error(l, err)
	}
}

// What stands behind MaxSteps is not played here either.
func TestLongScripts(t *testing.T) {
	c := read(t, motor)
	long := slices.Repeat([]int{0}, api.MaxSteps+5)
	plays(t, c, [][]int{long, long[:1]}, 2, []side.Told{
		{Answers: make([]int, api.MaxSteps), State: "on", Kicks: api.MaxSteps / 2},
		{Answers: []int{0}, State: "on"},
	})
}

func TestReads(t *testing.T) {
	small, great := "window 1 2\ncycle 1\ndelay 0", "window 3 5\ncycle 2\ndelay 1\nentity a 2\npoint b\npoint c\ncount c 1 3\ngap b c 0 7\nedge b c\nedge c c\nfirst b\nlast c\n"
	reads(t, []string{small, great, small, motor}, 3, []api.Config{
		{Closed: 1, Open: 2, Cycle: 1},
		{Closed: 3, Open: 5, Cycle: 2, Delay: 1, Entities: []api.Entity{{
			Name: "a", Tolerance: 2, Points: []string{"b", "c"}, Count: 1, Min: 1, Max: 3,
			Gaps: []api.Gap{{From: 0, To: 1, Min: 0, Max: 7}}, Edges: [][2]int{{0, 1}, {1, 1}}, First: []int{0}, Last: []int{1},
		}}},
		{Closed: 1, Open: 2, Cycle: 1},
		{Closed: 1, Open: 3, Cycle: 2, Delay: 1, Entities: []api.Entity{{Name: "motor", Points: []string{"turn"}, Min: 1, Max: 3}}},
	})
}

func TestNone(t *testing.T) {
	for workers := 1; workers <= api.Workers; workers++ {
		plays(t, read(t, motor), nil, workers, nil)
		plays(t, read(t, motor), [][]int{}, workers, nil)
		reads(t, nil, workers, nil)
		reads(t, []string{}, workers, nil)
	}
}

func TestAtMost(t *testing.T) {
	c := read(t, motor)
	for _, count := range []int{1, most - 1, most} {
		plays(t, c, make([][]int, count), api.Workers, slices.Repeat([]side.Told{{State: "on"}}, count))
		reads(t, slices.Repeat([]string{motor}, count), api.Workers, slices.Repeat([]api.Config{c}, count))
	}
	for _, count := range []int{most + 1, most + 2, 10 * most} {
		isBare(t, noPlays(t, c, make([][]int, count), 1), api.ErrBound)
		isBare(t, noReads(t, slices.Repeat([]string{motor}, count), 1), api.ErrBound)
	}
}

// How many work is asked ahead of all else, how many are told ahead of what they
// are.
func TestOrderOfErrors(t *testing.T) {
	wrong := api.Config{Closed: 1, Open: 3, Cycle: 2, Entities: []api.Entity{{Name: "?"}}}
	for _, workers := range []int{0, -1, api.Workers + 1, 1000, math.MinInt, math.MaxInt} {
		isBare(t, noPlays(t, read(t, motor), nil, workers), api.ErrShape)
		isBare(t, noPlays(t, wrong, [][]int{nil}, workers), api.ErrShape)
		isBare(t, noPlays(t, wrong, make([][]int, most+1), workers), api.ErrShape)
		isBare(t, noReads(t, nil, workers), api.ErrShape)
		isBare(t, noReads(t, []string{"what"}, workers), api.ErrShape)
		isBare(t, noReads(t, make([]string, most+1), workers), api.ErrShape)
	}
	isBare(t, noPlays(t, wrong, make([][]int, most+1), 2), api.ErrBound)
	isBare(t, noReads(t, make([]string, most+1), 2), api.ErrBound)
	isAt(t, noPlays(t, wrong, make([][]int, most), 2), 0, api.ErrName)
	isAt(t, noReads(t, make([]string, most), 2), 0, api.ErrText)
}

// Errors of a config are told as they are, also where nothing is played.
func TestWrongConfig(t *testing.T) {
	fine := api.Entity{Name: "a", Count: -1}
	for _, x := range []struct {
		c   api.Config
		at  int // -1: no place
		err error
	}{
		{api.Config{}, -1, api.ErrBound},
		{api.Config{Open: 2, Cycle: 3}, -1, api.ErrShape},
		{api.Config{Open: 2, Cycle: 1, Entities: []api.Entity{fine, {Name: "B"}}}, 1, api.ErrName},
		{api.Config{Open: 2, Cycle: 1, Entities: []api.Entity{fine, {Name: "b", Count: -1}, fine}}, 2, api.ErrExist},
		{api.Config{Open: 2, Cycle: 1, Entities: []api.Entity{{Name: "b", Count: 0}}}, 0, api.ErrNone},
	} {
		for _, scripts := range [][][]int{nil, {nil}, {{0}, {1}, {2}}, make([][]int, most)} {
			err := noPlays(t, x.c, scripts, 2)
			if x.at < 0 {
				isBare(t, err, x.err)
			} else {
				isAt(t, err, x.at, x.err)
			}
		}
	}
}

// Of a text that is none its place in the list is told; the line, or the entity,
// that it is in is not.
func TestWrongTexts(t *testing.T) {
	head := "window 1 2\ncycle 1\ndelay 0\n"
	for s, err := range map[string]error{
		"":                                           api.ErrText,
		"what":                                       api.ErrText,
		"window 1 2\n":                               api.ErrText,
		head + "\n":                                  api.ErrText,
		head + "entity a 0\nfirst b":                 api.ErrNone,
		strings.Repeat("x", api.MaxText+1):           api.ErrBound,
		"window 0 0\ncycle 1\ndelay 0":               api.ErrBound,
		"window 0 1\ncycle 2\ndelay 0":               api.ErrShape,
		head + "entity A 0":                          api.ErrName,
		head + "entity a 0\nentity a 0":              api.ErrExist,
		head + "entity a 0\nentity b 0\npoint A":     api.ErrName,
		head + "entity a 0\nentity b 21":             api.ErrBound,
		head + "entity a 0\npoint b\nedge b b":       api.ErrShape,
		head + "entity a 0\npoint b\ncount b 3 2":    api.ErrBound,
		head + "entity a 0\npoint b\ngap b b 2 1":    api.ErrBound,
		head + strings.Repeat("entity a 0\n", 9):     api.ErrBound,
		head + "entity a 0\nentity b 0\ngap a b 0 1": api.ErrNone,
	} {
		for _, at := range []int{0, 1, 5, most - 1} {
			l := slices.Repeat([]string{motor}, most)
			l[at] = s
			isAt(t, noReads(t, l, 4), at, err)
		}
	}
}

// The first one of the list is told, though others, behind it, are told sooner.
func TestFirstWrongText(t *testing.T) {
	late := "window 1 2\ncycle 1\ndelay 0\nentity a 0\n" + pointLines(400) + "first z"
	l := slices.Repeat([]string{motor}, most)
	for i := most / 2; i < most; i++ {
		l[i] = "what"
	}
	for at := range most / 2 {
		x := slices.Clone(l)
		x[at] = late
		for _, workers := range []int{1, 2, api.Workers} {
			isAt(t, noReads(t, x, workers), at, api.ErrNone)
		}
	}
	isAt(t, noReads(t, l, api.Workers), most/2, api.ErrText)
}

// pointLines are more than an entity may have: that is asked behind all lines.
func pointLines(count int) string { return strings.Repeat("point b\n", count) }

// The README's plays and reads.
func TestReadme(t *testing.T) {
	c := read(t, motor)
	l, err := side.Plays(c, [][]int{{4, 8*15 + 3}, {8*15 + 3}, nil}, 2)
	if err != nil || len(l) != 3 {
		t.Fatal(l, err)
	}
	if x := l[0]; !slices.Equal(x.Answers, []int{0, 11}) || !slices.Equal(x.Log, []api.Record{{Seq: 1, Entity: 0, Kind: 1, Tick: 4}}) || x.State != "reset" || x.Kicks != 2 {
		t.Error(x)
	}
	if x := l[1]; !slices.Equal(x.Answers, []int{0}) || len(x.Log) > 0 || x.State != "on" || x.Kicks != 7 {
		t.Error(x)
	}
	s := "window 1 3\ncycle 2\ndelay 1"
	reads(t, []string{s, motor}, 16, []api.Config{{Closed: 1, Open: 3, Cycle: 2, Delay: 1}, c})
	isAt(t, noReads(t, []string{s, "window 1 3\ncycle 02"}, 2), 1, api.ErrText)
}
