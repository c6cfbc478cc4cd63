package play_test

import (
	"errors"
	"math/rand"
	"reflect"
	"slices"
	"strconv"
	"sync"
	"testing"

	"nightwatch/api"
	"nightwatch/cells"
	"nightwatch/keeper"
	"nightwatch/play"
)

// code of an error, as the numbers stand in the remarks of package plain.
func code(t *testing.T, err error) int {
	t.Helper()
	if err == nil {
		return 0
	}
	for i, e := range []error{api.ErrText, api.ErrBound, api.ErrShape, api.ErrName, api.ErrNone, api.ErrExist, api.ErrFull, api.ErrOff, api.ErrIdle, api.ErrHeld, api.ErrReset} {
		if errors.Is(err, e) {
			return i + 1
		}
	}
	t.Fatal(err)
	return 0
}

// direct makes the calls of a script's number by hand, the number taken apart
// by bits.
func direct(t *testing.T, k *keeper.Keeper, n *cells.Cells, v int) int {
	t.Helper()
	if v < 0 {
		return -1
	}
	entity, point := v>>3&7, v>>6&15
	call := []func() error{
		k.Tick,
		k.Tick,
		func() error { return k.Report(entity, point) },
		func() (err error) {
			for left := v >> 3 & 15; left > 0 && err == nil; left-- {
				err = k.Tick()
			}
			return err
		},
		func() error { return k.Begin(entity) },
		func() error { return k.Stop(entity) },
		func() error { return n.Cut(v >> 3 & 63) },
		k.Boot,
	}[v&7]
	return code(t, call())
}

// seen is all that can be asked of a keeper and its cells.
type seen struct {
	Now, Kicks, Written int
	State, Total, Bytes string
	Statuses            []string
	Log                 []api.Record
	Power               bool
}

func look(k *keeper.Keeper, n *cells.Cells) seen {
	s := seen{Now: k.Now(), Kicks: k.Kicks(), Written: n.Written(), State: k.State(), Total: k.Total(), Bytes: strconv.Quote(n.Bytes()), Log: k.Log(), Power: n.Power()}
	for i := range api.MaxEntities {
		w, _ := k.Status(i)
		s.Statuses = append(s.Statuses, w)
	}
	return s
}

// some config, of few ticks, so that much comes to pass in a short play.
func some(r *rand.Rand) api.Config {
	c := api.Config{Closed: 1 + r.Intn(3), Delay: r.Intn(2)}
	c.Cycle = c.Closed + 1 + r.Intn(2)
	c.Open = c.Cycle + r.Intn(3)
	for i := range r.Intn(api.MaxEntities + 1) {
		e := api.Entity{Name: string(rune('a' + i)), Tolerance: r.Intn(3), Points: []string{"p", "q"}, Count: -1}
		switch r.Intn(3) {
		case 0:
			e.Count, e.Min, e.Max = r.Intn(2), r.Intn(2), 1+r.Intn(2)
		case 1:
			e.Gaps = []api.Gap{{From: 0, To: 1, Min: 0, Max: r.Intn(4)}}
		case 2:
			e.Edges, e.First = [][2]int{{0, 1}, {1, 0}}, []int{0}
		}
		c.Entities = append(c.Entities, e)
	}
	return c
}

// steps of a script: mostly ones that come to something, and any other number.
func steps(r *rand.Rand, size int) []int {
	var l []int
	for range size {
		switch r.Intn(10) {
		case 0, 1:
			l = append(l, begin(r.Intn(8)))
		case 2:
			l = append(l, report(r.Intn(8), r.Intn(3)))
		case 3, 4:
			l = append(l, ticks(r.Intn(16)))
		case 5:
			l = append(l, []int{boot, cut(r.Intn(40))}[r.Intn(2)])
		case 6:
			l = append(l, r.Int()-r.Int())
		default:
			l = append(l, r.Intn(1<<11)-8)
		}
	}
	return l
}

func TestAgainstCallsByHand(t *testing.T) {
	met := map[int]int{}
	states := map[string]int{}
	for seed := range 1500 {
		r := rand.New(rand.NewSource(int64(seed)))
		c := some(r)
		k, n := watch(t, c)
		x, y := watch(t, c)
		script := steps(r, 60)
		var want []int
		for _, v := range script {
			a := direct(t, x, y, v)
			want = append(want, a)
			met[a]++
		}
		if got := play.Run(k, n, script); !slices.Equal(got, want) {
			t.Fatalf("seed %d, %+v, %v:\ngot  %v\nwant %v", seed, c, script, got, want)
		}
		a, b := look(k, n), look(x, y)
		if !reflect.DeepEqual(a, b) {
			t.Fatalf("seed %d:\ngot  %+v\nwant %+v", seed, a, b)
		}
		states[a.State]++
	}
	for _, c := range []int{denied, fine, none, off, idle, held, reset} {
		if met[c] < 500 {
			t.Errorf("answer %d was met %d times", c, met[c])
		}
	}
	for _, s := range []string{"on", "off", "reset"} {
		if states[s] < 50 {
			t.Errorf("%d plays ended %s", states[s], s)
		}
	}
}

// P111: the same script makes the same play.

func TestSameScriptSamePlay(t *testing.T) {
	for seed := range 200 {
		r := rand.New(rand.NewSource(int64(seed)))
		c, script := some(r), steps(r, 200)
		k, n := watch(t, c)
		want := play.Run(k, n, script)
		ended := look(k, n)
		for range 3 {
			play.Run(k, n, steps(r, 5)) // another play is none of the next one's
			k, n = watch(t, c)
			if got := play.Run(k, n, script); !slices.Equal(got, want) || !reflect.DeepEqual(look(k, n), ended) {
				t.Fatalf("seed %d: got %v, then %v", seed, want, got)
			}
		}
	}
}

// Nothing is kept from one call to the next: a script in two parts is the same
// play.
func TestInParts(t *testing.T) {
	for seed := range 50 {
		r := rand.New(rand.NewSource(int64(seed)))
		c, script := some(r), steps(r, 40)
		k, n := watch(t, c)
		want := play.Run(k, n, script)
		for at := range script {
			x, y := watch(t, c)
			got := append(play.Run(x, y, script[:at]), play.Run(x, y, script[at:])...)
			if !slices.Equal(got, want) || !reflect.DeepEqual(look(x, y), look(k, n)) {
				t.Fatalf("seed %d, in parts at %d: got %v, want %v", seed, at, got, want)
			}
		}
	}
}

// Plays of one script at the same time are the same play, too.
func TestAtTheSameTime(t *testing.T) {
	r := rand.New(rand.NewSource(1))
	c, script := some(r), steps(r, api.MaxSteps)
	k, n := watch(t, c)
	want := play.Run(k, n, script)
	var wait sync.WaitGroup
	for range 8 {
		x, y := watch(t, c)
		wait.Go(func() {
			if got := play.Run(x, y, script); !slices.Equal(got, want) || !reflect.DeepEqual(look(x, y), look(k, n)) {
				t.Error("another play")
			}
		})
	}
	wait.Wait()
}

// Any number is some answer, and changes nothing but by a call.
func FuzzAnyNumbers(f *testing.F) {
	f.Add(0, -1, 1<<62)
	f.Add(7, 6, 3)
	f.Fuzz(func(t *testing.T, a, b, c int) {
		k, n := watch(t, config(0, counted("a", 0), counted("b", 1)))
		x, y := watch(t, config(0, counted("a", 0), counted("b", 1)))
		script := []int{begin(0), a, begin(1), b, ticks(9), c, a, boot, b}
		var want []int
		for _, v := range script {
			want = append(want, direct(t, x, y, v))
		}
		played(t, k, n, script, want...)
	})
}
