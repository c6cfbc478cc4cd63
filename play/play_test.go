package play_test

import (
	"encoding/binary"
	"hash/crc32"
	"math"
	"slices"
	"testing"

	"nightwatch/api"
	"nightwatch/cells"
	"nightwatch/conf"
	"nightwatch/keeper"
	"nightwatch/play"
)

// Numbers of errors in answers.
const (
	fine   = 0
	none   = 5
	full   = 7
	off    = 8
	idle   = 9
	held   = 10
	reset  = 11
	denied = -1
)

// What a script's numbers say, worked out by bits where the program divides.
const tick = 0

func report(entity, point int) int { return (point<<3|entity)<<3 | 2 }
func ticks(n int) int              { return n<<3 | 3 }
func begin(entity int) int         { return entity<<3 | 4 }
func stop(entity int) int          { return entity<<3 | 5 }
func cut(n int) int                { return n<<3 | 6 }

const boot = 7

// counted must report its one point once in each whole cycle.
func counted(name string, tolerance int) api.Entity {
	return api.Entity{Name: name, Tolerance: tolerance, Points: []string{"p"}, Count: 0, Min: 1, Max: 1}
}

// config with a window of 1 and 3, and a cycle of 2.
func config(delay int, l ...api.Entity) api.Config {
	return api.Config{Closed: 1, Open: 3, Cycle: 2, Delay: delay, Entities: l}
}

func blank(t *testing.T) *cells.Cells {
	t.Helper()
	n, err := cells.New(api.MaxBytes)
	if err != nil {
		t.Fatal(err)
	}
	return n
}

func watchOn(t *testing.T, c api.Config, n *cells.Cells) *keeper.Keeper {
	t.Helper()
	k, err := keeper.New(c, n)
	if err != nil {
		t.Fatal(err)
	}
	return k
}

func watch(t *testing.T, c api.Config) (*keeper.Keeper, *cells.Cells) {
	t.Helper()
	n := blank(t)
	return watchOn(t, c, n), n
}

// played is what a script must answer.
func played(t *testing.T, k *keeper.Keeper, n *cells.Cells, script []int, want ...int) {
	t.Helper()
	if l := play.Run(k, n, script); !slices.Equal(l, want) {
		t.Errorf("%v: got %v, want %v", script, l, want)
	}
}

func is(t *testing.T, k *keeper.Keeper, now int, state string) {
	t.Helper()
	if k.Now() != now || k.State() != state {
		t.Errorf("got tick %d, %s, want %d, %s", k.Now(), k.State(), now, state)
	}
}

func status(t *testing.T, k *keeper.Keeper, entity int, want string) {
	t.Helper()
	if s, err := k.Status(entity); s != want || err != nil {
		t.Errorf("entity %d: got %q, %v, want %s", entity, s, err, want)
	}
}

// P110: each of the calls, and its answers.

func TestNoSteps(t *testing.T) {
	k, n := watch(t, config(0))
	played(t, k, n, nil)
	played(t, k, n, []int{})
	is(t, k, 0, "on")
}

func TestTicks(t *testing.T) {
	k, n := watch(t, config(0))
	played(t, k, n, []int{0, 1}, fine, fine)
	is(t, k, 2, "on")
	played(t, k, n, []int{8, 8 + 1, 800, math.MaxInt - 7, math.MaxInt - 6}, fine, fine, fine, fine, fine)
	is(t, k, 7, "on") // one tick each, whatever q is
}

func TestTicksMoreThanOne(t *testing.T) {
	for q, want := range map[int]int{0: 0, 1: 1, 2: 2, 15: 15, 16: 0, 17: 1, 31: 15, 32: 0, 1000: 8, math.MaxInt / 8: 15} {
		k, n := watch(t, config(0))
		played(t, k, n, []int{ticks(q)}, fine)
		is(t, k, want, "on")
	}
}

// A dog that is not kicked in time, since the one entity is expired: the ticks
// end there.
func TestTicksEndWithAReset(t *testing.T) {
	k, n := watch(t, config(0, counted("a", 0)))
	played(t, k, n, []int{begin(0), ticks(15), tick, ticks(3), ticks(0), ticks(16)}, fine, reset, reset, reset, fine, fine)
	is(t, k, 7, "reset") // kicked at 2, expired and stopped at 4, 6 is the window's last
}

// Behind the error of a log that is full a keeper ticks on: here it must not.
func TestTicksEndWithAnError(t *testing.T) {
	b := binary.BigEndian.AppendUint32(nil, math.MaxUint32)
	b = append(b, make([]byte, 8)...)
	b = append(binary.BigEndian.AppendUint32(b, crc32.ChecksumIEEE(b)), 165)
	n := blank(t)
	if err := n.Write((math.MaxUint32-1)%(api.LogSize+1)*api.Slot, string(b)); err != nil {
		t.Fatal(err)
	}
	k := watchOn(t, config(0, counted("a", 0)), n)
	played(t, k, n, []int{begin(0), ticks(15)}, fine, full)
	is(t, k, 4, "on")
	played(t, k, n, []int{ticks(2), ticks(15)}, fine, reset)
	is(t, k, 7, "reset")
}

func TestBeginAndStop(t *testing.T) {
	k, n := watch(t, config(0, counted("a", 0), counted("b", 0), counted("c", 0)))
	played(t, k, n, []int{stop(1), begin(1), begin(1)}, idle, fine, held)
	for i, s := range []string{"idle", "ok", "idle"} {
		status(t, k, i, s)
	}
	played(t, k, n, []int{begin(2), stop(1), stop(1)}, fine, fine, idle)
	for i, s := range []string{"idle", "idle", "ok"} {
		status(t, k, i, s)
	}
	played(t, k, n, []int{begin(3), begin(7), stop(3), stop(7)}, none, none, none, none)
	is(t, k, 0, "on")
}

// Entities go round at MaxEntities.
func TestEntitiesGoRound(t *testing.T) {
	var l []api.Entity
	for i := range api.MaxEntities {
		l = append(l, counted(string(rune('a'+i)), 0))
	}
	k, n := watch(t, config(0, l...))
	for i := range 2 * api.MaxEntities {
		e := i % api.MaxEntities
		played(t, k, n, []int{begin(i)}, fine)
		status(t, k, e, "ok")
		played(t, k, n, []int{begin(e), stop(i + 800)}, held, fine)
		status(t, k, e, "idle")
	}
	last := math.MaxInt - math.MaxInt%8 // all bits of q are 1
	played(t, k, n, []int{last + 4, begin(7), last + 5}, fine, held, fine)
}

func TestReport(t *testing.T) {
	k, n := watch(t, config(0, counted("a", 0)))
	played(t, k, n, []int{report(0, 0), report(0, 1), begin(0)}, idle, idle, fine)
	played(t, k, n, []int{report(0, 0), report(0, 1), report(0, 15), report(0, 16), report(0, 17)}, fine, none, none, fine, none)
	played(t, k, n, []int{report(1, 0), report(7, 0), report(7, 15)}, none, none, none)
	is(t, k, 0, "on")
}

// Each point of each entity, and only that one: the entity whose point is the
// one that is counted is well, if it was reported.
func TestReportsItsPoint(t *testing.T) {
	points := make([]string, api.MaxPoints)
	for i := range points {
		points[i] = string(rune('a' + i))
	}
	for counted := range api.MaxPoints {
		for entity := range api.MaxEntities {
			for _, round := range []int{0, api.MaxPoints, 1000 * api.MaxPoints} {
				reportsItsPoint(t, points, counted, entity, round)
			}
		}
	}
}

func reportsItsPoint(t *testing.T, points []string, counted, entity, round int) {
	t.Helper()
	var l []api.Entity
	var begins []int
	for i := range api.MaxEntities {
		l = append(l, api.Entity{Name: points[i], Tolerance: 1, Points: points, Count: counted, Min: 1, Max: 1})
		begins = append(begins, begin(i))
	}
	k, n := watch(t, config(0, l...))
	play.Run(k, n, append(begins, ticks(2))) // of the first cycle it is not asked
	played(t, k, n, []int{report(entity, counted+round)}, fine)
	for p := range points {
		if p != counted {
			for e := range l {
				played(t, k, n, []int{report(e, p+round)}, fine)
			}
		}
	}
	played(t, k, n, []int{ticks(2)}, fine)
	for e := range l {
		want := "failed"
		if e == entity {
			want = "ok"
		}
		status(t, k, e, want)
	}
}

// Power fails when so many bytes more are written, whatever the cells were cut
// to ahead.
func TestCut(t *testing.T) {
	for _, q := range []int{0, 1, 2, 17, 62, 63, 64, 65, 127, 128, 6400 + 5, math.MaxInt / 8} {
		k, n := watch(t, config(0))
		played(t, k, n, []int{cut(40), cut(q)}, fine, fine)
		is(t, k, 0, "on")
		if err := n.Write(0, string(make([]byte, 100))); err != api.ErrOff || n.Written() != q%64 {
			t.Errorf("cut of %d: %v behind %d bytes", q, err, n.Written())
		}
		is(t, k, 0, "off")
		played(t, k, n, []int{cut(q)}, off)
	}
}

// Without power all but a boot answers so; ticks that are none answer nothing.
func TestOff(t *testing.T) {
	k, n := watch(t, config(0, counted("a", 0), counted("b", 0)))
	played(t, k, n, []int{begin(0), cut(20), ticks(4)}, fine, fine, fine) // a record has 17 bytes
	played(t, k, n, []int{begin(1), ticks(1), cut(2)}, fine, fine, fine)
	if err := n.Write(api.MaxBytes-3, "xyz"); err != api.ErrOff {
		t.Fatal(err)
	}
	played(t, k, n, []int{tick, 1, report(0, 0), report(7, 0), ticks(1), begin(1), begin(7), stop(0), cut(0), ticks(0)}, off, off, off, off, off, off, off, off, off, fine)
	is(t, k, 5, "off")
	played(t, k, n, []int{boot, boot, ticks(1)}, fine, held, fine)
	is(t, k, 6, "on")
}

// Power fails in the middle of a record, while the keeper ticks: the ticks end
// with it, and behind a boot the record is not there.
func TestCutInARecord(t *testing.T) {
	k, n := watch(t, config(0, counted("a", 0)))
	played(t, k, n, []int{begin(0), cut(16), ticks(15), tick}, fine, fine, off, off)
	is(t, k, 4, "off")
	played(t, k, n, []int{boot, ticks(15)}, fine, fine)
	if l := k.Log(); len(l) > 0 {
		t.Error(l)
	}
}

func TestBoot(t *testing.T) {
	k, n := watch(t, config(0, counted("a", 0)))
	played(t, k, n, []int{boot, 8 + boot, begin(0), ticks(15)}, held, held, fine, reset)
	played(t, k, n, []int{tick, 1, ticks(1), begin(0), stop(0), report(0, 0), begin(7)}, reset, reset, reset, reset, reset, reset, reset)
	played(t, k, n, []int{cut(0), math.MaxInt, math.MaxInt, begin(0)}, fine, fine, held, fine)
	is(t, k, 7, "on")
}

// The cut is that of the cells that are handed over, if they are others than
// those of the keeper.
func TestOtherCells(t *testing.T) {
	k, mine := watch(t, config(0, counted("a", 0)))
	n := blank(t)
	played(t, k, n, []int{begin(0), cut(0)}, fine, fine)
	if err := n.Write(0, "x"); err != api.ErrOff {
		t.Error(err)
	}
	played(t, k, n, []int{cut(1), boot, ticks(4)}, off, held, fine)
	is(t, k, 4, "on")
	if n.Power() || !mine.Power() || mine.Written() != api.Slot || n.Written() != 0 {
		t.Error(n.Power(), mine.Power(), mine.Written(), n.Written())
	}
}

// A number below 0 is nothing.
func TestBelowZero(t *testing.T) {
	k, n := watch(t, config(0, counted("a", 0)))
	for v := -1000; v < 0; v++ {
		played(t, k, n, []int{v}, denied)
	}
	played(t, k, n, []int{math.MinInt, math.MinInt + 1, math.MinInt + 4}, denied, denied, denied)
	is(t, k, 0, "on")
	status(t, k, 0, "idle")
	played(t, k, n, []int{begin(0), ticks(15), -1, -8 + boot}, fine, reset, denied, denied)
	is(t, k, 7, "reset")
	if err := n.Write(0, string(make([]byte, 100))); err != nil {
		t.Error("a cut is ahead:", err)
	}
}

// What stands behind MaxSteps numbers is not played.
func TestAtMostSoMany(t *testing.T) {
	for _, size := range []int{api.MaxSteps - 1, api.MaxSteps, api.MaxSteps + 1, 5 * api.MaxSteps} {
		k, n := watch(t, config(0))
		want := min(size, api.MaxSteps)
		played(t, k, n, make([]int, size), make([]int, want)...)
		is(t, k, want, "on")
	}
}

// Numbers below 0 are numbers too: they count among so many.
func TestBelowZeroCounts(t *testing.T) {
	k, n := watch(t, config(0))
	l := slices.Repeat([]int{-1}, api.MaxSteps-1)
	want := append(slices.Clone(l), fine)
	played(t, k, n, append(l, tick, tick), want...)
	is(t, k, 1, "on")
}

// The greatest play there is ends.
func TestLongest(t *testing.T) {
	k, n := watch(t, config(0))
	played(t, k, n, slices.Repeat([]int{ticks(15)}, api.MaxSteps), make([]int, api.MaxSteps)...)
	is(t, k, 15*api.MaxSteps, "on")
}

// A script is only read, and an answer is new memory.
func TestScriptIsOnlyRead(t *testing.T) {
	k, n := watch(t, config(0, counted("a", 0)))
	all := []int{begin(0), -1, ticks(15), boot, begin(0), begin(0)}
	was := slices.Clone(all)
	l := play.Run(k, n, all[:3])
	if !slices.Equal(l, []int{fine, denied, reset}) {
		t.Error(l)
	}
	_ = append(l, 99, 99, 99)
	for i := range l {
		l[i] = 98
	}
	if !slices.Equal(all, was) {
		t.Error(all)
	}
	is(t, k, 7, "reset") // what lies behind the list's length is not played
	played(t, k, n, all[3:5], fine, fine)
	if !slices.Equal(l, []int{98, 98, 98}) {
		t.Error(l)
	}
}

// The README's motor.
func TestMotor(t *testing.T) {
	c, err := conf.Read("window 1 3\ncycle 2\ndelay 1\nentity motor 0\npoint turn\ncount turn 1 3\n")
	if err != nil {
		t.Fatal(err)
	}
	k, n := watch(t, c)
	played(t, k, n, []int{4, 8*2 + 3, 2, 0, 1, 8*15 + 3, -5, 7, 8*8 + 2}, 0, 0, 0, 0, 0, 11, -1, 0, 9)
	is(t, k, 11, "on")
}
