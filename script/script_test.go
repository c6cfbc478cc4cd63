package script_test

import (
	"slices"
	"strconv"
	"strings"
	"testing"

	"nightwatch/api"
	"nightwatch/script"
)

// Texts of errors, written out.
const (
	text  = "nightwatch: text"
	none  = "nightwatch: none"
	off   = "nightwatch: off"
	idle  = "nightwatch: idle"
	held  = "nightwatch: held"
	reset = "nightwatch: reset"
)

// motor must turn in each cycle of two ticks.
const motor = "window 1 3\ncycle 2\ndelay 1\nentity motor 0\npoint turn\ncount turn 1 3\n"

// bare watches nobody, and is never reset.
const bare = "window 1 3\ncycle 2\ndelay 1\n"

// played is what lines must answer: each pair a line and its answer.
func played(t *testing.T, config string, pairs ...[2]string) {
	t.Helper()
	var lines []string
	for _, p := range pairs {
		lines = append(lines, p[0])
	}
	l, err := script.Run(config, lines)
	if err != nil || len(l) != len(pairs) {
		t.Fatalf("got %q, %v", l, err)
	}
	for i, p := range pairs {
		if l[i] != p[1] {
			t.Errorf("line %d, %q: got %q, want %q", i, p[0], l[i], p[1])
		}
	}
}

// refused is the error of a script that is not played.
func refused(t *testing.T, config string, lines []string) error {
	t.Helper()
	l, err := script.Run(config, lines)
	if len(l) > 0 || err == nil {
		t.Errorf("%.60q: got %q, %v", config, l, err)
	}
	return err
}

// isBare tells whether it is this error, without a place.
func isBare(t *testing.T, err, want error) {
	t.Helper()
	if err != want {
		t.Errorf("got %#v, want %v", err, want)
	}
}

// isAt tells whether it is this error, once, with this place.
func isAt(t *testing.T, err error, at int, want error) {
	t.Helper()
	f, ok := err.(*api.Fault)
	if !ok || f.At != at || f.Err != want {
		t.Errorf("got %#v, want %v at %d", err, want, at)
	}
}

// P130: Run, and each of its commands.

func TestNoLines(t *testing.T) {
	played(t, motor)
	for _, lines := range [][]string{nil, {}} {
		if l, err := script.Run(bare, lines); len(l) > 0 || err != nil {
			t.Error(l, err)
		}
	}
}

func TestAtMostSoManyLines(t *testing.T) {
	for _, size := range []int{1, api.MaxLines - 1, api.MaxLines} {
		played(t, bare, slices.Repeat([][2]string{{"now", "0"}}, size)...)
	}
	for _, size := range []int{api.MaxLines + 1, api.MaxLines + 2, 10 * api.MaxLines} {
		isBare(t, refused(t, bare, slices.Repeat([]string{"now"}, size)), api.ErrBound)
	}
}

// Lines that are none are lines too: they count among so many.
func TestWrongLinesCount(t *testing.T) {
	played(t, bare, slices.Repeat([][2]string{{"", text}}, api.MaxLines)...)
	isBare(t, refused(t, bare, make([]string, api.MaxLines+1)), api.ErrBound)
}

// The number of lines is asked ahead of the config.
func TestOrderOfErrors(t *testing.T) {
	for _, config := range []string{"", "what", strings.Repeat("x", api.MaxText+1), "window 0 1\ncycle 2\ndelay 0", bare + "entity A 0"} {
		isBare(t, refused(t, config, make([]string, api.MaxLines+1)), api.ErrBound)
	}
	isAt(t, refused(t, "what", make([]string, api.MaxLines)), 0, api.ErrText)
}

// A config that is none is told as conf.Read tells it, with its place, whatever
// the lines are.
func TestWrongConfig(t *testing.T) {
	for _, x := range []struct {
		config string
		at     int // -1: no place
		err    error
	}{
		{strings.Repeat("x", api.MaxText+1), -1, api.ErrBound},
		{"", 0, api.ErrText},
		{"what", 0, api.ErrText},
		{"window 1 3\ncycle 02", 1, api.ErrText},
		{"window 1 3\ncycle 2\n", 2, api.ErrText},
		{"window 1 3; cycle 2; delay 1", 0, api.ErrText},
		{bare + "entity a 0\nfirst b", 4, api.ErrNone},
		{"window 0 0\ncycle 1\ndelay 0", -1, api.ErrBound},
		{"window 0 1\ncycle 2\ndelay 0", -1, api.ErrShape},
		{bare + "entity a 0\nentity B 0", 1, api.ErrName},
		{bare + "entity a 0\nentity b 0\nentity a 0", 2, api.ErrExist},
		{bare + "entity a 21", 0, api.ErrBound},
		{bare + "entity a 0\npoint b\nedge b b", 0, api.ErrShape},
	} {
		for _, lines := range [][]string{nil, {"now"}, {"what"}, make([]string, api.MaxLines)} {
			err := refused(t, x.config, lines)
			if x.at < 0 {
				isBare(t, err, x.err)
			} else {
				isAt(t, err, x.at, x.err)
			}
		}
	}
}

// The numbers here are worked out from the chapters, not by the program: the
// motor is expired at tick 6 and stopped at 8; the last kick is that at 6, so
// that the dog is reset at 11.
func TestMotor(t *testing.T) {
	played(t, motor, [][2]string{
		{"state", "on"}, {"now", "0"}, {"kicks", "0"}, {"total", "ok"}, {"status 0", "idle"}, {"cause", "nothing"}, {"log", "nothing"},
		{"begin 0", "ok"}, {"status 0", "ok"}, {"tick 1", "ok"}, {"kicks", "0"}, {"tick 1", "ok"}, {"kicks", "1"},
		{"report 0 0", "ok"}, {"tick 2", "ok"}, {"status 0", "ok"}, {"total", "ok"}, {"cause", "nothing"},
		{"tick 2", "ok"}, {"status 0", "expired"}, {"total", "expired"}, {"cause", "1 0 1 6"}, {"log", "1 0 1 6"}, {"kicks", "3"},
		{"tick 2", "ok"}, {"total", "stopped"}, {"kicks", "3"}, {"tick 2", "ok"}, {"state", "on"},
		{"tick 1", reset}, {"state", "reset"}, {"now", "11"}, {"status 0", "expired"}, {"total", "stopped"}, {"cause", "1 0 1 6"},
		{"boot", "ok"}, {"state", "on"}, {"now", "11"}, {"kicks", "3"}, {"status 0", "idle"}, {"total", "ok"}, {"log", "1 0 1 6"},
	}...)
}

func TestBeginAndStop(t *testing.T) {
	played(t, bare+"entity a 0\nentity b 0\nentity c 0\n", [][2]string{
		{"stop 1", idle}, {"begin 1", "ok"}, {"begin 1", held}, {"status 0", "idle"}, {"status 1", "ok"}, {"status 2", "idle"},
		{"begin 2", "ok"}, {"stop 1", "ok"}, {"stop 1", idle}, {"status 0", "idle"}, {"status 1", "idle"}, {"status 2", "ok"},
		{"begin 3", none}, {"stop 3", none}, {"status 3", none}, {"report 3 0", none},
	}...)
}

// Each entity that there may be, and each digit that is none.
func TestEntities(t *testing.T) {
	for count := range api.MaxEntities + 1 {
		config := bare
		for i := range count {
			config += "entity e" + strconv.Itoa(i) + " 0\npoint p\n"
		}
		for i := range 10 {
			e := strconv.Itoa(i)
			want := [4]string{"idle", "ok", "ok", "ok"}
			if i >= count {
				want = [4]string{none, none, none, none}
			}
			played(t, config, [2]string{"status " + e, want[0]}, [2]string{"begin " + e, want[1]}, [2]string{"report " + e + " 0", want[2]}, [2]string{"stop " + e, want[3]})
		}
	}
}

// Each point that there may be, and numbers that are none: also of so many
// digits as any number may have.
func TestPoints(t *testing.T) {
	config := bare + "entity a 0\n"
	for i := range api.MaxPoints {
		config += "point p" + strconv.Itoa(i) + "\n"
	}
	pairs := [][2]string{{"report 0 0", idle}, {"report 0 16", idle}, {"begin 0", "ok"}}
	for i := range api.MaxPoints {
		pairs = append(pairs, [2]string{"report 0 " + strconv.Itoa(i), "ok"})
	}
	for _, i := range []int{16, 17, 99, 100, 999, 1000, 99999} {
		pairs = append(pairs, [2]string{"report 0 " + strconv.Itoa(i), none}, [2]string{"report 1 " + strconv.Itoa(i), none})
	}
	played(t, config, pairs...)
}

// The point that is reported is the second number, of the entity that is the
// first one.
func TestReportsItsPoint(t *testing.T) {
	config := bare
	for _, name := range []string{"a", "b", "c"} {
		config += "entity " + name + " 1\npoint p\npoint q\npoint r\ncount r 1 1\n"
	}
	begins := [][2]string{{"begin 0", "ok"}, {"begin 1", "ok"}, {"begin 2", "ok"}, {"tick 2", "ok"}}
	for e := range 3 {
		pairs := slices.Clone(begins)
		for other := range 3 {
			for p := range 3 {
				if p != 2 || other == e {
					pairs = append(pairs, [2]string{"report " + strconv.Itoa(other) + " " + strconv.Itoa(p), "ok"})
				}
			}
		}
		pairs = append(pairs, [2]string{"tick 2", "ok"})
		for other := range 3 {
			want := "failed"
			if other == e {
				want = "ok"
			}
			pairs = append(pairs, [2]string{"status " + strconv.Itoa(other), want})
		}
		played(t, config, pairs...)
	}
}

// A report is one at this tick: a gap of just five ticks.
func TestReportsAtThisTick(t *testing.T) {
	config := "window 1 99\ncycle 50\ndelay 0\nentity a 1\npoint p\npoint q\ngap p q 5 5\n"
	for ticks, want := range map[string]string{"0": "failed", "4": "failed", "5": "ok", "6": "failed"} {
		played(t, config, [2]string{"begin 0", "ok"}, [2]string{"tick 7", "ok"}, [2]string{"report 0 0", "ok"},
			[2]string{"tick " + ticks, "ok"}, [2]string{"report 0 1", "ok"}, [2]string{"tick " + strconv.Itoa(43-atoi(t, ticks)), "ok"},
			[2]string{"now", "50"}, [2]string{"status 0", want})
	}
}

func atoi(t *testing.T, s string) int {
	t.Helper()
	n, err := strconv.Atoi(s)
	if err != nil {
		t.Fatal(err)
	}
	return n
}

func TestTicks(t *testing.T) {
	played(t, bare, [][2]string{
		{"tick 0", "ok"}, {"now", "0"}, {"tick 1", "ok"}, {"now", "1"}, {"tick 9", "ok"}, {"now", "10"}, {"tick 10", "ok"}, {"now", "20"},
		{"tick 99999", "ok"}, {"now", "100019"}, {"kicks", "50009"}, {"state", "on"},
	}...)
}

// Ticks end with the first error; no tick at all has none.
func TestTicksEndWithAnError(t *testing.T) {
	played(t, motor, [][2]string{
		{"begin 0", "ok"}, {"tick 9", reset}, {"now", "9"}, {"tick 1", reset}, {"tick 99999", reset}, {"tick 0", "ok"}, {"now", "9"}, {"state", "reset"},
	}...)
	played(t, motor, [][2]string{
		{"begin 0", "ok"}, {"cut 0", "ok"}, {"tick 99999", off}, {"now", "4"}, {"tick 1", off}, {"tick 0", "ok"}, {"now", "4"}, {"state", "off"},
	}...)
}

// The longest script there is ends.
func TestLongest(t *testing.T) {
	pairs := slices.Repeat([][2]string{{"tick 99999", "ok"}}, api.MaxLines-1)
	played(t, bare, append(pairs, [2]string{"now", "9899901"})...)
}

// A record is 17 bytes, written one by one: with one byte less it is not there
// behind a boot.
func TestCut(t *testing.T) {
	for _, n := range []string{"0", "1", "9", "10", "16"} {
		played(t, motor, [][2]string{
			{"cut 99999", "ok"}, {"cut " + n, "ok"}, {"state", "on"}, {"begin 0", "ok"}, {"tick 4", off}, {"state", "off"}, {"now", "4"}, {"log", "nothing"},
			{"begin 0", off}, {"stop 0", off}, {"report 0 0", off}, {"begin 9", off}, {"tick 1", off}, {"cut 1", off},
			{"status 0", "expired"}, {"status 1", none}, {"total", "ok"}, {"kicks", "1"},
			{"boot", "ok"}, {"state", "on"}, {"cause", "nothing"}, {"log", "nothing"}, {"begin 0", "ok"}, {"tick 4", "ok"}, {"log", "1 0 1 8"},
		}...)
	}
	for _, n := range []string{"17", "18", "99999"} {
		played(t, motor, [][2]string{
			{"cut 0", "ok"}, {"cut " + n, "ok"}, {"begin 0", "ok"}, {"tick 4", "ok"}, {"state", "on"}, {"log", "1 0 1 4"},
		}...)
	}
}

// Behind a reset a cut is taken, and a boot takes it away.
func TestCutBehindAReset(t *testing.T) {
	played(t, motor, [][2]string{
		{"begin 0", "ok"}, {"tick 9", reset}, {"cut 0", "ok"}, {"boot", "ok"}, {"begin 0", "ok"}, {"tick 3", "ok"}, {"log", "1 0 1 4, 2 0 1 12"},
	}...)
}

func TestBoot(t *testing.T) {
	played(t, motor, [][2]string{
		{"boot", held}, {"begin 0", "ok"}, {"boot", held}, {"status 0", "ok"}, {"tick 9", reset},
		{"begin 0", reset}, {"stop 0", reset}, {"report 0 0", reset}, {"begin 9", reset}, {"status 9", none}, {"status 0", "expired"},
		{"boot", "ok"}, {"boot", held}, {"status 0", "idle"}, {"begin 0", "ok"},
	}...)
}

// Of a record all four numbers are told, in their order.
func TestCause(t *testing.T) {
	config := "window 1 20\ncycle 10\ndelay 20\nentity idle 0\nentity a 0\npoint p\ncount p 1 1\nentity b 0\npoint p\ngap p p 1 2\nentity c 0\npoint p\npoint q\nedge p q\nfirst p\n"
	played(t, config, [][2]string{
		{"begin 3", "ok"}, {"report 3 1", "ok"}, {"tick 10", "ok"}, {"cause", "1 3 3 10"}, {"log", "1 3 3 10"},
		{"begin 2", "ok"}, {"report 2 0", "ok"}, {"begin 1", "ok"}, {"tick 10", "ok"}, {"cause", "2 2 2 20"}, {"log", "1 3 3 10, 2 2 2 20"},
		{"tick 10", "ok"}, {"cause", "3 1 1 30"}, {"log", "1 3 3 10, 2 2 2 20, 3 1 1 30"},
	}...)
}

// Of more records than a log has the last ones are told, the first of them
// first. A boot at an even tick is followed by a record 4 ticks and a reset 7
// ticks later, one at an odd tick by a record 3 and a reset 5 ticks later: so
// record n is one of tick 6n - 2.
func TestLongLog(t *testing.T) {
	var pairs [][2]string
	var log []string
	for n := 1; n <= 20; n++ {
		log = append(log, strconv.Itoa(n)+" 0 1 "+strconv.Itoa(6*n-2))
		last := log[max(0, len(log)-api.LogSize):]
		pairs = append(pairs, [2]string{"begin 0", "ok"}, [2]string{"tick 99999", reset}, [2]string{"log", strings.Join(last, ", ")}, [2]string{"cause", log[n-1]}, [2]string{"boot", "ok"})
	}
	played(t, strings.Replace(motor, "delay 1", "delay 0", 1), pairs...)
}

// A config is told as it was read, whatever was played ahead; the last line
// break, which may be missing, is not told.
func TestConfig(t *testing.T) {
	played(t, bare, [2]string{"config", "window 1 3; cycle 2; delay 1"})
	played(t, motor, [2]string{"config", "window 1 3; cycle 2; delay 1; entity motor 0; point turn; count turn 1 3"})
	lines := []string{
		"window 1 3", "cycle 2", "delay 1", "entity a 20", "point b", "point c-1", "count c-1 1 3", "gap b c-1 0 7",
		"gap b b 0 1099511627776", "edge b c-1", "edge c-1 c-1", "first b", "last c-1", "entity b 0",
	}
	want := strings.Join(lines, "; ")
	for _, end := range []string{"", "\n"} {
		played(t, strings.Join(lines, "\n")+end, [][2]string{
			{"config", want}, {"begin 0", "ok"}, {"report 0 1", "ok"}, {"cut 0", "ok"}, {"config", want}, {"tick 99", off}, {"config", want}, {"boot", "ok"}, {"config", want},
		}...)
	}
}

// The longest text that is read is told, too.
func TestLongConfig(t *testing.T) {
	config := bare
	for e := range api.MaxEntities {
		config += "entity e" + strconv.Itoa(e) + " 0\n"
		for p := range api.MaxPoints {
			config += "point " + string(rune('a'+p)) + "-2345678901\n"
		}
		for p := range api.MaxPoints {
			config += "edge " + string(rune('a'+p)) + "-2345678901 a-2345678901\n"
		}
		config += "first a-2345678901\n"
	}
	if len(config) > api.MaxText || len(config) < api.MaxText*3/4 {
		t.Fatal(len(config))
	}
	played(t, config, [2]string{"config", strings.TrimSuffix(strings.ReplaceAll(config, "\n", "; "), "; ")})
}

// P131: what is answered to errors, and to lines that are none.

// Each error that a command may answer has its text alone.
func TestTextsOfErrors(t *testing.T) {
	for text, err := range map[string]error{text: api.ErrText, none: api.ErrNone, off: api.ErrOff, idle: api.ErrIdle, held: api.ErrHeld, reset: api.ErrReset} {
		if err.Error() != text {
			t.Errorf("got %q, want %q", err, text)
		}
	}
	played(t, motor, [][2]string{
		{"begin 1", none}, {"stop 0", idle}, {"begin 0", "ok"}, {"begin 0", held}, {"report 0 1", none}, {"tick 99", reset}, {"stop 0", reset},
		{"boot", "ok"}, {"begin 0", "ok"}, {"cut 0", "ok"}, {"tick 99", off}, {"stop 0", off}, {"cut 0", off}, {"x", text},
	}...)
}

// nones are lines that are none: of each command with too few words, too many,
// and words that are none; and of none.
func nones() []string {
	l := []string{
		"", " ", "  ", "\n", "\x00", "0", "what", "what 0", "Begin 0", "BOOT", "beginn 0", "begi 0", "begin0", "begin\t0", "begin,0", "boot;", "ok",
		"entity", "kick", "reset", "on", "off", "end", "count", "window 1 3", "report 0,0", "report 00", "report 0 0 0", "report 0  0", "report 10 0", "report a 0", "report 0 a",
		"report -1 0", "report 0 -1", "report 0 100000", "report 0 00", "report 0 01", "report 00 0", "report 0 +1", "report 0 ", "report  0", "tick 100000", "tick 000000", "cut 100000",
		"tick 99999999999999999999", "cut 9223372036854775808", "tick " + strings.Repeat("9", 1000), "begin " + strings.Repeat("0", 1000), strings.Repeat(" ", 1000), strings.Repeat("boot ", 1000),
	}
	words := []string{"", " ", "00", "01", "+1", "-1", "-0", "+", "-", "a", "0a", "a0", "0x1", "1_0", "1e1", "1.", "1.0", "\t1", "1\t", "1\n", "1\r", "\u0661", "\uff11", "\xff", "0 0 0", "one", "E", "N"}
	for _, c := range []string{"begin", "stop", "status", "tick", "cut"} {
		l = append(l, c, c+" 1 ", " "+c+" 1", c+"  1", c+" 1 1", c+" 1\n", "\n"+c+" 1", strings.ToUpper(c)+" 1")
		for _, w := range words {
			l = append(l, c+" "+w, "report "+w+" 0", "report 0 "+w)
		}
	}
	for _, c := range []string{"begin", "stop", "status"} {
		l = append(l, c+" 10", c+" 99", c+" 12345")
	}
	for _, c := range []string{"boot", "now", "kicks", "total", "state", "cause", "log", "config"} {
		l = append(l, c+" ", " "+c, c+" 0", c+" "+c, c+"\n", c+"\r", c+"\x00", strings.ToUpper(c), c+c, c[1:], c[:len(c)-1])
	}
	return l
}

// A line that is none does nothing: what is told behind is as ahead.
func TestLinesThatAreNone(t *testing.T) {
	for l := range slices.Chunk(nones(), api.MaxLines-20) {
		pairs := [][2]string{{"begin 0", "ok"}, {"tick 3", "ok"}, {"report 0 0", "ok"}, {"cut 40", "ok"}}
		for _, s := range l {
			pairs = append(pairs, [2]string{s, text})
		}
		pairs = append(pairs, [2]string{"now", "3"}, [2]string{"kicks", "1"}, [2]string{"status 0", "ok"}, [2]string{"state", "on"}, [2]string{"tick 1", "ok"}, [2]string{"status 0", "ok"}, [2]string{"log", "nothing"})
		played(t, motor, pairs...)
	}
}

// That a line is none is told ahead of what stands in the way of a call.
func TestTextAheadOfAll(t *testing.T) {
	for _, way := range [][][2]string{
		{{"begin 0", "ok"}, {"tick 99", reset}},
		{{"begin 0", "ok"}, {"cut 0", "ok"}, {"tick 99", off}},
	} {
		for l := range slices.Chunk(nones(), api.MaxLines-20) {
			pairs := slices.Clone(way)
			for _, s := range l {
				pairs = append(pairs, [2]string{s, text})
			}
			played(t, motor, pairs...)
		}
	}
}

// The README's script.
func TestReadme(t *testing.T) {
	played(t, motor, [][2]string{
		{"begin 0", "ok"}, {"tick 2", "ok"}, {"report 0 0", "ok"}, {"tick 99", reset}, {"now", "11"}, {"cause", "1 0 1 6"}, {"boot", "ok"},
		{"report 0 0", idle}, {"tick 01", text}, {"state", "on"},
	}...)
}
