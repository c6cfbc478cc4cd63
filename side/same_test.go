package side_test

import (
	"math/rand"
	"reflect"
	"runtime"
	"slices"
	"sync"
	"testing"
	"time"

	"nightwatch/api"
	"nightwatch/conf"
	"nightwatch/side"
)

// some config that is right, of few ticks, so that much comes to pass in a short
// play.
func some(r *rand.Rand) api.Config {
	c := api.Config{Closed: r.Intn(4), Delay: r.Intn(2)}
	c.Cycle = 1 + r.Intn(4)
	c.Open = c.Cycle + r.Intn(3)
	for i := range r.Intn(api.MaxEntities + 1) {
		e := api.Entity{Name: string(rune('a' + i)), Tolerance: r.Intn(3), Points: []string{"p", "q"}, Count: -1}
		switch r.Intn(3) {
		case 0:
			e.Count, e.Min, e.Max = r.Intn(2), r.Intn(2), 1+r.Intn(2)
		case 1:
			e.Gaps = []api.Gap{{From: 0, To: 1, Min: 0, Max: r.Intn(4)}}
		case 2:
			e.Edges, e.First = [][2]int{{0, 1}, {1, 0}}, []int{0}
		}
		c.Entities = append(c.Entities, e)
	}
	return c
}

// steps of a script, and some that are none.
func steps(r *rand.Rand, size int) []int {
	l := make([]int, size)
	for i := range l {
		switch r.Intn(4) {
		case 0:
			l[i] = r.Intn(8)<<3 | begin
		case 1:
			l[i] = r.Intn(16)<<3 | 3
		default:
			l[i] = r.Intn(1<<10) - 8
		}
	}
	return l
}

// uneven scripts: the first ones take long, so that those behind are told ahead
// of them.
func uneven(r *rand.Rand, count int) [][]int {
	l := make([][]int, count)
	for i := range l {
		l[i] = steps(r, r.Intn(30))
		if i%20 == 0 {
			l[i] = steps(r, api.MaxSteps)
		}
	}
	return l
}

// P121: by however many it is the same; and the same as by none beside.

func TestPlaysByAnyNumber(t *testing.T) {
	met := map[string]int{}
	for seed := range 12 {
		r := rand.New(rand.NewSource(int64(seed)))
		c, scripts := some(r), uneven(r, []int{1, 2, 15, 16, 17, most}[seed%6])
		var want []side.Told
		for _, s := range scripts {
			x := told(t, c, s)
			want = append(want, x)
			met[x.State]++
		}
		for workers := 1; workers <= api.Workers; workers++ {
			plays(t, c, scripts, workers, want)
		}
	}
	for _, s := range []string{"on", "off", "reset"} {
		if met[s] == 0 {
			t.Errorf("no play ended %s", s)
		}
	}
}

// unevenTexts: the first ones are long.
func unevenTexts(t *testing.T, r *rand.Rand, count int) ([]string, []api.Config) {
	t.Helper()
	var texts []string
	var configs []api.Config
	for i := range count {
		c := some(r)
		if i%20 == 0 {
			for i := range c.Entities {
				c.Entities[i].Points = append(c.Entities[i].Points, "a", "b", "c", "d", "e", "f", "g", "h")
			}
		}
		s, err := conf.Text(c)
		if err != nil {
			t.Fatal(err)
		}
		texts, configs = append(texts, s), append(configs, c)
	}
	return texts, configs
}

func TestReadsByAnyNumber(t *testing.T) {
	for seed := range 12 {
		r := rand.New(rand.NewSource(int64(seed)))
		texts, want := unevenTexts(t, r, []int{1, 2, 15, 16, 17, most}[seed%6])
		for workers := 1; workers <= api.Workers; workers++ {
			reads(t, texts, workers, want)
		}
	}
}

// The error and its place hang on the list alone.
func TestErrorsByAnyNumber(t *testing.T) {
	bad := map[string]error{"what": api.ErrText, "window 0 1\ncycle 2\ndelay 0": api.ErrShape, "window 0 0\ncycle 1\ndelay 0\n": api.ErrBound, "window 0 1\ncycle 1\ndelay 0\nentity a 0\nlast a": api.ErrNone}
	for seed := range 40 {
		r := rand.New(rand.NewSource(int64(seed)))
		texts, _ := unevenTexts(t, r, most)
		for s := range bad {
			for range 1 + r.Intn(3) {
				texts[r.Intn(most)] = s
			}
		}
		first := slices.IndexFunc(texts, func(s string) bool { return bad[s] != nil })
		for workers := 1; workers <= api.Workers; workers++ {
			isAt(t, noReads(t, texts, workers), first, bad[texts[first]])
		}
	}
}

// Calls that are made at the same time, of the same lists, are as one alone.
func TestCallsAtTheSameTime(t *testing.T) {
	r := rand.New(rand.NewSource(1))
	c, scripts := some(r), uneven(r, 40)
	texts, configs := unevenTexts(t, r, 40)
	var want []side.Told
	for _, s := range scripts {
		want = append(want, told(t, c, s))
	}
	var wait sync.WaitGroup
	for workers := 1; workers <= api.Workers; workers++ {
		wait.Go(func() { plays(t, c, scripts, workers, want) })
		wait.Go(func() { reads(t, texts, workers, configs) })
	}
	wait.Wait()
}

// Nobody is left behind, whatever is answered. A goroutine that has told that it
// ends is counted for a moment yet: so it is asked until it is gone.
func TestAllAreJoined(t *testing.T) {
	before := runtime.NumGoroutine()
	c := read(t, motor)
	for workers := -1; workers <= api.Workers+1; workers++ {
		for _, count := range []int{0, 1, 3, most, most + 1} {
			_, _ = side.Plays(c, make([][]int, count), workers)
			_, _ = side.Plays(api.Config{}, make([][]int, count), workers)
			_, _ = side.Reads(slices.Repeat([]string{motor}, count), workers)
			_, _ = side.Reads(make([]string, count), workers)
		}
	}
	for end := time.Now().Add(10 * time.Second); runtime.NumGoroutine() > before; runtime.Gosched() {
		if time.Now().After(end) {
			t.Fatalf("%d more than ahead", runtime.NumGoroutine()-before)
		}
	}
}

// P4: what is handed over is only read, what is answered is new memory.

func TestScriptsAreOnlyRead(t *testing.T) {
	c, was := read(t, motor), read(t, motor)
	all := []int{begin, ticks15, boot, begin}
	scripts := [][]int{all[:2], all[:2], all[2:], nil, {7}}
	l, err := side.Plays(c, scripts[:3], 2)
	if err != nil || len(l) != 3 || len(l[0].Answers) != 2 || len(l[0].Log) != 1 {
		t.Fatal(l, err)
	}
	if !slices.Equal(all, []int{begin, ticks15, boot, begin}) || scripts[3] != nil || !slices.Equal(scripts[4], []int{7}) || !reflect.DeepEqual(c, was) {
		t.Error(all, scripts, c)
	}
	want := told(t, c, all[:2])
	_, _ = append(l[0].Answers, 99), append(l[0].Log, api.Record{})
	l[0].Answers[0], l[0].Answers[1], l[0].Log[0] = 99, 99, api.Record{Seq: 99}
	if !sameTold(l[1], want) || !slices.Equal(all, []int{begin, ticks15, boot, begin}) {
		t.Error(l, all)
	}
	plays(t, c, scripts[:1], 2, []side.Told{want})
	again := told(t, c, all[:2])
	all[0], c.Entities[0].Points[0] = -1, "other"
	if !sameTold(l[1], again) {
		t.Error("what was told is changed:", l[1])
	}
}

func TestTextsAreOnlyRead(t *testing.T) {
	all := []string{motor, motor, "what"}
	l, err := side.Reads(all[:2], 2)
	if err != nil || len(l) != 2 {
		t.Fatal(l, err)
	}
	_ = append(l[0].Entities, api.Entity{})
	l[0].Entities[0].Points[0] = "other"
	l[0].Entities[0].Name = "other"
	if !reflect.DeepEqual(l[1], read(t, motor)) || !slices.Equal(all, []string{motor, motor, "what"}) {
		t.Error(l, all)
	}
	reads(t, all[:2], 2, []api.Config{read(t, motor), read(t, motor)})
}

// P2: nothing is kept from call to call.
func TestAgain(t *testing.T) {
	r := rand.New(rand.NewSource(3))
	c, scripts := some(r), uneven(r, 30)
	want, err := side.Plays(c, scripts, 5)
	if err != nil {
		t.Fatal(err)
	}
	for range 5 {
		_, _ = side.Plays(some(r), uneven(r, 5), 3)
		_, _ = side.Reads([]string{"what"}, 3)
		plays(t, c, scripts, 5, want)
	}
}
