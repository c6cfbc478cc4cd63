package script_test

import (
	"math/rand"
	"regexp"
	"slices"
	"strconv"
	"strings"
	"sync"
	"testing"

	"nightwatch/api"
	"nightwatch/cells"
	"nightwatch/conf"
	"nightwatch/keeper"
	"nightwatch/script"
)

// forms of lines, by patterns where the program takes words apart.
var forms = map[string]*regexp.Regexp{
	"entity": regexp.MustCompile(`\A(begin|stop|status) ([0-9])\z`),
	"report": regexp.MustCompile(`\A(report) ([0-9]) (0|[1-9][0-9]{0,4})\z`),
	"number": regexp.MustCompile(`\A(tick|cut) (0|[1-9][0-9]{0,4})\z`),
	"alone":  regexp.MustCompile(`\A(boot|now|kicks|total|state|cause|log|config)\z`),
}

// byHand makes the calls of a line on a keeper and its cells.
func byHand(t *testing.T, k *keeper.Keeper, n *cells.Cells, c api.Config, line string) string {
	t.Helper()
	for _, f := range forms {
		if m := f.FindStringSubmatch(line); m != nil {
			var l [2]int
			for i, w := range m[2:] {
				l[i] = atoi(t, w)
			}
			return call(t, k, n, c, m[1], l[0], l[1])
		}
	}
	return text
}

func call(t *testing.T, k *keeper.Keeper, n *cells.Cells, c api.Config, word string, a, b int) string {
	t.Helper()
	var err error
	s := "ok"
	switch word {
	case "begin":
		err = k.Begin(a)
	case "stop":
		err = k.Stop(a)
	case "report":
		err = k.Report(a, b)
	case "tick":
		for ; a > 0 && err == nil; a-- {
			err = k.Tick()
		}
	case "cut":
		err = n.Cut(a)
	case "boot":
		err = k.Boot()
	case "status":
		s, err = k.Status(a)
	default:
		s, err = tell(k, c, word)
	}
	if err != nil {
		return err.Error()
	}
	return s
}

func tell(k *keeper.Keeper, c api.Config, word string) (string, error) {
	switch word {
	case "now":
		return strconv.Itoa(k.Now()), nil
	case "kicks":
		return strconv.Itoa(k.Kicks()), nil
	case "total":
		return k.Total(), nil
	case "state":
		return k.State(), nil
	case "cause":
		r, is := k.Cause()
		if !is {
			return "nothing", nil
		}
		return records(r), nil
	case "log":
		return records(k.Log()...), nil
	}
	s, err := conf.Text(c)
	return strings.TrimSuffix(strings.ReplaceAll(s, "\n", "; "), "; "), err
}

func records(l ...api.Record) string {
	s := ""
	for i, r := range l {
		if i > 0 {
			s += ", "
		}
		s += strconv.Itoa(r.Seq) + " " + strconv.Itoa(r.Entity) + " " + strconv.Itoa(r.Kind) + " " + strconv.Itoa(r.Tick)
	}
	if s == "" {
		return "nothing"
	}
	return s
}

// allByHand is what a script must answer.
func allByHand(t *testing.T, config string, lines []string) []string {
	t.Helper()
	c, err := conf.Read(config)
	if err != nil {
		t.Fatal(err)
	}
	n, err := cells.New(api.MaxBytes)
	if err != nil {
		t.Fatal(err)
	}
	k, err := keeper.New(c, n)
	if err != nil {
		t.Fatal(err)
	}
	var l []string
	for _, s := range lines {
		l = append(l, byHand(t, k, n, c, s))
	}
	return l
}

// some config, of few ticks, so that much comes to pass in a short script.
func some(r *rand.Rand) string {
	closed := 1 + r.Intn(3)
	cycle := closed + 1 + r.Intn(2)
	s := "window " + strconv.Itoa(closed) + " " + strconv.Itoa(cycle+r.Intn(3)) + "\ncycle " + strconv.Itoa(cycle) + "\ndelay " + strconv.Itoa(r.Intn(2)) + "\n"
	for i := range r.Intn(api.MaxEntities + 1) {
		s += "entity e" + strconv.Itoa(i) + " " + strconv.Itoa(r.Intn(3)) + "\npoint p\npoint q\n"
		s += []string{"count q 1 2\n", "count p 0 1\n", "gap p q 0 3\n", "edge p q\nedge q p\nfirst p\n", ""}[r.Intn(5)]
	}
	return s
}

// someLine is mostly one that comes to something; some are none.
func someLine(r *rand.Rand) string {
	switch r.Intn(12) {
	case 0, 1, 2:
		return "begin " + strconv.Itoa(r.Intn(10))
	case 3:
		return []string{"stop ", "status "}[r.Intn(2)] + strconv.Itoa(r.Intn(10))
	case 4, 5:
		return "report " + strconv.Itoa(r.Intn(9)) + " " + strconv.Itoa(r.Intn(3))
	case 6, 7:
		return "tick " + strconv.Itoa(r.Intn(16))
	case 8:
		return []string{"cut " + strconv.Itoa(r.Intn(40)), "boot"}[r.Intn(2)]
	case 9:
		return someWords(r)
	}
	return []string{"now", "kicks", "total", "state", "cause", "log", "config", "boot"}[r.Intn(8)]
}

func someWords(r *rand.Rand) string {
	words := []string{"begin", "stop", "report", "tick", "cut", "boot", "now", "status", "log", "0", "1", "9", "10", "01", "99999", "100000", "-1", "", " ", "x"}
	var l []string
	for range r.Intn(4) {
		l = append(l, words[r.Intn(len(words))])
	}
	return strings.Join(l, " ")
}

func someLines(r *rand.Rand, size int) []string {
	var l []string
	for range size {
		l = append(l, someLine(r))
	}
	return l
}

func run(t *testing.T, config string, lines []string) []string {
	t.Helper()
	l, err := script.Run(config, lines)
	if err != nil {
		t.Fatalf("%q: %v", config, err)
	}
	return l
}

func TestAgainstCallsByHand(t *testing.T) {
	met := map[string]int{}
	for seed := range 1500 {
		r := rand.New(rand.NewSource(int64(seed)))
		config, lines := some(r), someLines(r, 1+r.Intn(api.MaxLines))
		want := allByHand(t, config, lines)
		if got := run(t, config, lines); !slices.Equal(got, want) {
			t.Fatalf("seed %d, %q, %q:\ngot  %q\nwant %q", seed, config, lines, got, want)
		}
		for _, s := range want {
			met[s]++
		}
	}
	for _, s := range []string{"ok", "nothing", "idle", "failed", "expired", "stopped", "on", "off", "reset", text, none, off, idle, held, reset} {
		if met[s] < 30 {
			t.Errorf("%q was met %d times", s, met[s])
		}
	}
}

// P132: the same lines make the same answers.

func TestSameLinesSameAnswers(t *testing.T) {
	for seed := range 200 {
		r := rand.New(rand.NewSource(int64(seed)))
		config, lines := some(r), someLines(r, api.MaxLines)
		want := run(t, config, lines)
		for range 3 {
			run(t, some(r), someLines(r, 5)) // another script is none of the next one's
			if got := run(t, config, lines); !slices.Equal(got, want) {
				t.Fatalf("seed %d: got %q, then %q", seed, want, got)
			}
		}
	}
}

// What stands behind a line makes no difference to its answer.
func TestBeginnings(t *testing.T) {
	for seed := range 20 {
		r := rand.New(rand.NewSource(int64(seed)))
		config, lines := some(r), someLines(r, 50)
		want := run(t, config, lines)
		for size := range lines {
			if got := run(t, config, lines[:size]); !slices.Equal(got, want[:size]) {
				t.Fatalf("seed %d, %d lines: got %q, want %q", seed, size, got, want[:size])
			}
		}
	}
}

// A line that is none, and one that only asks, make no difference to the others.
func TestAskingChangesNothing(t *testing.T) {
	asks := []string{"now", "kicks", "total", "state", "cause", "log", "config", "status 0", "status 9", "what", "tick 0"}
	for seed := range 200 {
		r := rand.New(rand.NewSource(int64(seed)))
		config, lines := some(r), someLines(r, api.MaxLines/2)
		var between []string
		for _, s := range lines {
			between = append(between, s, asks[r.Intn(len(asks))])
		}
		want, got := run(t, config, lines), run(t, config, between)
		for i := range want {
			if got[2*i] != want[i] {
				t.Fatalf("seed %d, line %d, %q: got %q, want %q", seed, i, lines[i], got[2*i], want[i])
			}
		}
	}
}

// Scripts that are run at the same time have nothing of each other's.
func TestAtTheSameTime(t *testing.T) {
	r := rand.New(rand.NewSource(1))
	config, lines := some(r), someLines(r, api.MaxLines)
	want := run(t, config, lines)
	var wait sync.WaitGroup
	for range 8 {
		wait.Go(func() {
			if got, err := script.Run(config, lines); err != nil || !slices.Equal(got, want) {
				t.Error("other answers:", got, err)
			}
		})
	}
	wait.Wait()
}

// P4: lines are only read, none behind the list's length, and an answer is new
// memory.
func TestLinesAreOnlyRead(t *testing.T) {
	all := []string{"begin 0", "tick 2", "what", "boot", "now"}
	was := slices.Clone(all)
	l := run(t, motor, all[:3])
	want := []string{"ok", "ok", text}
	if !slices.Equal(l, want) {
		t.Error(l)
	}
	_ = append(l, "x", "x", "x")
	for i := range l {
		l[i] = "x"
	}
	if !slices.Equal(all, was) || !slices.Equal(run(t, motor, all[:3]), want) {
		t.Error(all)
	}
}

// Any line is some answer, in any state.
func FuzzAnyLine(f *testing.F) {
	for _, s := range []string{"", "begin 0", "report 0 0", "tick 99999", "cut 5", "boot", "now", "log", "config", "status 8", "tick 01", "cut +1", "boot "} {
		f.Add(s, "tick 3", s)
	}
	f.Fuzz(func(t *testing.T, a, b, c string) {
		lines := []string{a, "begin 0", a, b, "begin 1", "tick 9", c, a, "boot", b, "log", "state", "now"}
		config := motor + "entity b 1\npoint p\npoint q\nedge p q\nfirst p\n"
		if got, want := run(t, config, lines), allByHand(t, config, lines); !slices.Equal(got, want) {
			t.Errorf("%q: got %q, want %q", lines, got, want)
		}
	})
}
