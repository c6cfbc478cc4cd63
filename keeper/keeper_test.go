package keeper_test

import (
	"encoding/binary"
	"errors"
	"hash/crc32"
	"math"
	"reflect"
	"slices"
	"strings"
	"testing"

	"nightwatch/api"
	"nightwatch/cells"
	"nightwatch/conf"
	"nightwatch/keeper"
)

const logBytes = (api.LogSize + 1) * api.Slot

// counted must report its one point once in each whole cycle.
func counted(name string, tolerance int) api.Entity {
	return api.Entity{Name: name, Tolerance: tolerance, Points: []string{"p"}, Count: 0, Min: 1, Max: 1}
}

// ordered must report p and q in turns, p first; it may report nothing.
func ordered(name string, tolerance int) api.Entity {
	return api.Entity{Name: name, Tolerance: tolerance, Points: []string{"p", "q"}, Count: -1, Edges: [][2]int{{0, 1}, {1, 0}}, First: []int{0}}
}

// spaced must report p and then q 2 or 3 ticks later; it may report nothing.
func spaced(name string, tolerance int) api.Entity {
	return api.Entity{Name: name, Tolerance: tolerance, Points: []string{"p", "q"}, Count: -1, Gaps: []api.Gap{{From: 0, To: 1, Min: 2, Max: 3}}}
}

// config with a window of 2 and 4, and a cycle of 3.
func config(delay int, l ...api.Entity) api.Config {
	return api.Config{Closed: 2, Open: 4, Cycle: 3, Delay: delay, Entities: l}
}

func blank(t *testing.T, size int) *cells.Cells {
	t.Helper()
	n, err := cells.New(size)
	answers(t, err, nil)
	return n
}

func watch(t *testing.T, c api.Config, n *cells.Cells) *keeper.Keeper {
	t.Helper()
	k, err := keeper.New(c, n)
	if err != nil || k == nil {
		t.Fatalf("New(%+v): %v", c, err)
	}
	return k
}

// answers are bare errors: no place is told.
func answers(t *testing.T, got, want error) {
	t.Helper()
	if got != want {
		t.Errorf("got %v, want %v", got, want)
	}
}

func begins(t *testing.T, k *keeper.Keeper, entities ...int) {
	t.Helper()
	for _, e := range entities {
		answers(t, k.Begin(e), nil)
	}
}

func ticks(t *testing.T, k *keeper.Keeper, n int) {
	t.Helper()
	for range n {
		if err := k.Tick(); err != nil {
			t.Fatalf("at tick %d: %v", k.Now(), err)
		}
	}
}

// is tells now, kicks, state and total.
func is(t *testing.T, k *keeper.Keeper, now, kicks int, state, total string) {
	t.Helper()
	if k.Now() != now || k.Kicks() != kicks || k.State() != state || k.Total() != total {
		t.Errorf("got %d, %d, %s, %s, want %d, %d, %s, %s", k.Now(), k.Kicks(), k.State(), k.Total(), now, kicks, state, total)
	}
}

func statuses(t *testing.T, k *keeper.Keeper, want ...string) {
	t.Helper()
	for i, w := range want {
		if s, err := k.Status(i); s != w || err != nil {
			t.Errorf("entity %d: got %q, %v, want %s", i, s, err, w)
		}
	}
}

// logs tells the log, and its last as the cause.
func logs(t *testing.T, k *keeper.Keeper, want ...api.Record) {
	t.Helper()
	if l := k.Log(); !slices.Equal(l, want) {
		t.Errorf("log: got %v, want %v", l, want)
	}
	last, is := k.Cause()
	if is != (len(want) > 0) || is && last != want[len(want)-1] || !is && last != (api.Record{}) {
		t.Errorf("cause: got %v, %t, want the last of %v", last, is, want)
	}
}

// fails cuts the power of the cells behind the log, ahead of a byte.
func fails(t *testing.T, n *cells.Cells) {
	t.Helper()
	answers(t, n.Cut(0), nil)
	answers(t, n.Write(logBytes, "x"), api.ErrOff)
}

// resets ticks until the dog is reset.
func resets(t *testing.T, k *keeper.Keeper) {
	t.Helper()
	for range 5000 {
		if err := k.Tick(); err != nil {
			answers(t, err, api.ErrReset)
			return
		}
	}
	t.Fatal("never reset")
}

// full is cells whose log holds the record of the greatest number there is.
func full(t *testing.T) *cells.Cells {
	t.Helper()
	b := binary.BigEndian.AppendUint32(nil, math.MaxUint32)
	b = append(b, make([]byte, 8)...)
	b = binary.BigEndian.AppendUint32(b, crc32.ChecksumIEEE(b))
	n := blank(t, api.MaxBytes)
	answers(t, n.Write((math.MaxUint32-1)%(api.LogSize+1)*api.Slot, string(append(b, 165))), nil)
	return n
}

// refused are the calls that are so, by this error, while it is not on; the
// entities and points may be none.
func refused(t *testing.T, k *keeper.Keeper, want error) {
	t.Helper()
	answers(t, k.Tick(), want)
	for _, e := range []int{0, 1, -1, 99, math.MinInt, math.MaxInt} {
		answers(t, k.Begin(e), want)
		answers(t, k.Stop(e), want)
		answers(t, k.Report(e, 0), want)
		answers(t, k.Report(e, -1), want)
	}
}

// P100

func TestNewAsAtTheBeginning(t *testing.T) {
	n := blank(t, api.MaxBytes)
	k := watch(t, config(1, counted("a", 0), ordered("b", 0)), n)
	is(t, k, 0, 0, "on", "ok")
	statuses(t, k, "idle", "idle")
	logs(t, k)
	if n.Written() != 0 {
		t.Error("New wrote", n.Written())
	}
	k = watch(t, config(0), blank(t, logBytes)) // no entity, and no byte too many
	is(t, k, 0, 0, "on", "ok")
}

func TestNewTellsCheckFirst(t *testing.T) {
	dark, small := blank(t, api.MaxBytes), blank(t, logBytes-1)
	fails(t, dark)
	wrong := []api.Config{
		{}, config(-1), config(api.MaxDelay + 1), {Closed: -1, Open: 4, Cycle: 3}, {Closed: 2, Open: 2, Cycle: 3}, {Closed: 2, Open: 4},
		{Closed: 2, Open: 4, Cycle: api.MaxCycle + 1},
		config(1, counted("a", 0), counted("A", 0)), config(1, counted("a", 0), counted("a", 0)), config(1, counted("a", -1)),
		config(1, api.Entity{Name: "a"}), config(1, slices.Repeat([]api.Entity{counted("a", 0)}, api.MaxEntities+1)...),
	}
	for i, c := range wrong {
		want := conf.Check(c)
		for _, n := range []*cells.Cells{nil, small, dark, blank(t, api.MaxBytes)} {
			k, err := keeper.New(c, n)
			if want == nil || k != nil || !reflect.DeepEqual(err, want) {
				t.Errorf("%d: got %v, %v, want %v", i, k, err, want)
			}
		}
	}
	var f *api.Fault
	if _, err := keeper.New(wrong[7], dark); !errors.As(err, &f) || f.At != 1 || f.Err != api.ErrName {
		t.Error("no place:", err)
	}
	for _, x := range []struct {
		n    *cells.Cells
		want error
	}{{nil, api.ErrShape}, {blank(t, 0), api.ErrBound}, {small, api.ErrBound}, {dark, api.ErrOff}} {
		k, err := keeper.New(config(1), x.n)
		answers(t, err, x.want)
		if k != nil {
			t.Error("a keeper with", err)
		}
	}
}

func TestNewFindsTheLog(t *testing.T) {
	n := blank(t, api.MaxBytes)
	k := watch(t, config(0, counted("a", 0)), n)
	begins(t, k, 0)
	ticks(t, k, 6)
	first := api.Record{Seq: 1, Kind: api.Alive, Tick: 6}
	logs(t, k, first)
	k = watch(t, config(0, ordered("x", 0), ordered("b", 0)), n)
	is(t, k, 0, 0, "on", "ok")
	logs(t, k, first)
	begins(t, k, 1)
	answers(t, k.Report(1, 1), nil)
	ticks(t, k, 3)
	logs(t, k, first, api.Record{Seq: 2, Entity: 1, Kind: api.Flow, Tick: 3})
}

func TestEntities(t *testing.T) {
	k := watch(t, config(1, counted("a", 0), ordered("b", 0)), blank(t, api.MaxBytes))
	for _, e := range []int{2, 3, -1, api.MaxEntities, math.MinInt, math.MaxInt} {
		answers(t, k.Begin(e), api.ErrNone)
		answers(t, k.Stop(e), api.ErrNone)
		answers(t, k.Report(e, 0), api.ErrNone)
		s, err := k.Status(e)
		answers(t, err, api.ErrNone)
		if s != "" {
			t.Error("status of none:", s)
		}
	}
	answers(t, k.Stop(1), api.ErrIdle)
	answers(t, k.Report(1, 0), api.ErrIdle)
	answers(t, k.Report(1, 9), api.ErrIdle)
	begins(t, k, 1)
	statuses(t, k, "idle", "ok")
	answers(t, k.Begin(1), api.ErrHeld)
	for _, p := range []int{2, -1, api.MaxPoints, math.MinInt, math.MaxInt} {
		answers(t, k.Report(1, p), api.ErrNone)
	}
	answers(t, k.Report(1, 1), nil) // q is not first: bad
	answers(t, k.Report(0, 0), api.ErrIdle)
	begins(t, k, 0)
	ticks(t, k, 3)
	statuses(t, k, "ok", "expired")
	answers(t, k.Stop(1), nil)
	statuses(t, k, "ok", "idle")
	none := watch(t, config(1), blank(t, api.MaxBytes))
	answers(t, none.Begin(0), api.ErrNone)
	_, err := none.Status(0)
	answers(t, err, api.ErrNone)
}

// A report is at the tick that is now.
func TestReportsAtThisTick(t *testing.T) {
	for between, want := range []string{"failed", "failed", "ok", "ok", "failed"} {
		c := api.Config{Closed: 0, Open: 20, Cycle: 12, Entities: []api.Entity{spaced("a", 5)}}
		k := watch(t, c, blank(t, api.MaxBytes))
		begins(t, k, 0)
		ticks(t, k, 13) // so that the gap lies in a later cycle than the first
		answers(t, k.Report(0, 0), nil)
		ticks(t, k, between)
		answers(t, k.Report(0, 1), nil)
		ticks(t, k, 11-between)
		statuses(t, k, want)
	}
}

// P101

// Cycles end at the multiples of their ticks, and at no other one.
func TestWhereCyclesEnd(t *testing.T) {
	for cycle := 1; cycle <= 7; cycle++ {
		k := watch(t, api.Config{Closed: 0, Open: 7, Cycle: cycle, Delay: 20, Entities: []api.Entity{counted("a", 20)}}, blank(t, api.MaxBytes))
		begins(t, k, 0)
		for tick := 1; tick <= 3*cycle; tick++ {
			ticks(t, k, 1)
			want := "ok"
			if tick >= 2*cycle {
				want = "failed"
			}
			statuses(t, k, want)
			is(t, k, tick, tick/cycle, "on", want)
		}
	}
}

// Who becomes expired is written, in the order of the entities, once.
func TestWhoExpiresIsWritten(t *testing.T) {
	n := blank(t, api.MaxBytes)
	k := watch(t, config(20, spaced("a", 1), counted("b", 0), ordered("c", 0), ordered("d", 0)), n)
	begins(t, k, 3, 2, 1, 0)
	ticks(t, k, 3)
	logs(t, k)
	answers(t, k.Report(3, 1), nil)
	answers(t, k.Report(0, 1), nil)
	ticks(t, k, 3)
	second := []api.Record{{Seq: 1, Entity: 1, Kind: api.Alive, Tick: 6}, {Seq: 2, Entity: 3, Kind: api.Flow, Tick: 6}}
	logs(t, k, second...)
	statuses(t, k, "failed", "expired", "ok", "expired")
	answers(t, k.Report(3, 1), nil)
	answers(t, k.Report(0, 1), nil)
	ticks(t, k, 3)
	third := append(second, api.Record{Seq: 3, Entity: 0, Kind: api.Gaps, Tick: 9})
	logs(t, k, third...)
	if n.Written() != 3*api.Slot {
		t.Error("written:", n.Written())
	}
	// Stopped and begun, it may become so once more.
	answers(t, k.Stop(3), nil)
	begins(t, k, 3)
	answers(t, k.Report(3, 1), nil)
	ticks(t, k, 3)
	logs(t, k, append(third, api.Record{Seq: 4, Entity: 3, Kind: api.Flow, Tick: 12})...)
}

// More causes than the log holds: the last ones stay.
func TestLogGoesRound(t *testing.T) {
	var l []api.Entity
	for i := range api.MaxEntities {
		l = append(l, ordered(string(rune('a'+i)), 0))
	}
	k := watch(t, config(0, l...), blank(t, logBytes))
	var want []api.Record
	for range 3 {
		for e := range l {
			begins(t, k, e)
			answers(t, k.Report(e, 1), nil)
			want = append(want, api.Record{Seq: len(want) + 1, Entity: e, Kind: api.Flow, Tick: k.Now() - k.Now()%3 + 3})
		}
		resets(t, k)
		logs(t, k, want[len(want)-api.LogSize:]...)
		answers(t, k.Boot(), nil)
		logs(t, k, want[len(want)-api.LogSize:]...)
	}
}

// A kick comes at the end of a cycle, if the window is open there.
func TestWhereItKicks(t *testing.T) {
	for _, x := range []struct {
		closed, open, cycle int
		kicks               []int
	}{
		{2, 4, 3, []int{3, 6, 9, 12, 15, 18, 21, 24}},
		{3, 3, 3, []int{6, 12, 18, 24}},
		{0, 1, 1, []int{1, 2, 3, 4, 5, 6, 7, 8}},
		{1, 1, 1, []int{2, 4, 6, 8, 10}},
		{5, 4, 4, []int{8, 16, 24}},
		{4, 5, 5, []int{5, 10, 15, 20}},
		{7, 6, 5, []int{10, 20, 30}},
	} {
		k := watch(t, api.Config{Closed: x.closed, Open: x.open, Cycle: x.cycle}, blank(t, api.MaxBytes))
		var got []int
		for len(got) < len(x.kicks) && k.Now() < 1000 {
			ticks(t, k, 1)
			if k.Kicks() > len(got) {
				got = append(got, k.Now())
			}
		}
		if !slices.Equal(got, x.kicks) {
			t.Errorf("%d, %d, %d: got %v, want %v", x.closed, x.open, x.cycle, got, x.kicks)
		}
	}
}

// The total is asked ahead of the kick: with each delay, the last kick comes in
// the last cycle that is not stopped.
func TestDelays(t *testing.T) {
	for delay := range api.MaxDelay + 1 {
		k := watch(t, config(delay, counted("a", 0)), blank(t, api.MaxBytes))
		begins(t, k, 0)
		ticks(t, k, 3)
		is(t, k, 3, 1, "on", "ok")
		for i := range delay {
			ticks(t, k, 3)
			is(t, k, 6+3*i, 2+i, "on", "expired")
		}
		ticks(t, k, 3)
		is(t, k, 6+3*delay, 1+delay, "on", "stopped")
		// The window began a cycle ago, and has 6 ticks.
		ticks(t, k, 3)
		is(t, k, 9+3*delay, 1+delay, "on", "stopped")
		answers(t, k.Tick(), api.ErrReset)
		is(t, k, 10+3*delay, 1+delay, "reset", "stopped")
		logs(t, k, api.Record{Seq: 1, Kind: api.Alive, Tick: 6})
	}
}

// At the tick that resets it no cycle ends: nothing is asked, nothing written.
func TestNoCycleEndsWhereItIsReset(t *testing.T) {
	n := blank(t, api.MaxBytes)
	c := api.Config{Closed: 1, Open: 4, Cycle: 3, Entities: []api.Entity{ordered("a", 0), ordered("b", 0)}}
	k := watch(t, c, n)
	begins(t, k, 0, 1)
	answers(t, k.Report(0, 1), nil)
	ticks(t, k, 3)
	is(t, k, 3, 0, "on", "stopped")
	ticks(t, k, 2)
	answers(t, k.Report(1, 1), nil)
	answers(t, k.Tick(), api.ErrReset) // at tick 6, a multiple of 3, 6 behind the start
	is(t, k, 6, 0, "reset", "stopped")
	statuses(t, k, "expired", "ok")
	logs(t, k, api.Record{Seq: 1, Kind: api.Flow, Tick: 3})
	if n.Written() != api.Slot {
		t.Error("written:", n.Written())
	}
}

// Behind a reset nothing goes on, and all can still be asked.
func TestBehindAReset(t *testing.T) {
	k := watch(t, config(0, counted("a", 0), ordered("b", 0)), blank(t, api.MaxBytes))
	begins(t, k, 0, 1)
	resets(t, k)
	now, kicks := k.Now(), k.Kicks()
	for range 3 {
		refused(t, k, api.ErrReset)
		is(t, k, now, kicks, "reset", "stopped")
		statuses(t, k, "expired", "ok")
		_, err := k.Status(2)
		answers(t, err, api.ErrNone)
		logs(t, k, api.Record{Seq: 1, Kind: api.Alive, Tick: 6})
	}
}

// Power is cut at each byte of three records of one cycle: what is ahead of the
// cut is done, and all behind it is not.
func TestCutsInACycle(t *testing.T) {
	c := config(0, counted("a", 0), counted("b", 0), counted("c", 0))
	for bytes := range 3*api.Slot + 2 {
		n := blank(t, api.MaxBytes)
		k := watch(t, c, n)
		begins(t, k, 0, 1, 2)
		ticks(t, k, 5)
		answers(t, n.Cut(bytes), nil)
		is(t, k, 5, 1, "on", "ok")
		whole := bytes / api.Slot
		var want []api.Record
		for i := range min(whole, 3) {
			want = append(want, api.Record{Seq: i + 1, Entity: i, Kind: api.Alive, Tick: 6})
		}
		if whole >= 3 {
			answers(t, k.Tick(), nil)
			is(t, k, 6, 1, "on", "stopped")
			logs(t, k, want...)
			continue
		}
		answers(t, k.Tick(), api.ErrOff)
		is(t, k, 6, 1, "off", "ok")
		all := []string{"ok", "ok", "ok"}
		for i := range whole + 1 {
			all[i] = "expired"
		}
		statuses(t, k, all...)
		logs(t, k, want...)
		refused(t, k, api.ErrOff)
		is(t, k, 6, 1, "off", "ok")
		answers(t, k.Boot(), nil)
		is(t, k, 6, 1, "on", "ok")
		statuses(t, k, "idle", "idle", "idle")
		logs(t, k, want...)
	}
}

// A log that is full: its error is answered, and the cycle is left undone there.
func TestFullLog(t *testing.T) {
	k := watch(t, config(0, counted("a", 0), counted("b", 20)), full(t))
	last := api.Record{Seq: math.MaxUint32}
	logs(t, k, last)
	begins(t, k, 0, 1)
	ticks(t, k, 5)
	answers(t, k.Tick(), api.ErrFull)
	is(t, k, 6, 1, "on", "ok")
	statuses(t, k, "expired", "ok")
	logs(t, k, last)
	answers(t, k.Boot(), api.ErrHeld)
	ticks(t, k, 3) // it does not become expired once more: nothing is to be written
	is(t, k, 9, 1, "on", "stopped")
	statuses(t, k, "expired", "failed")
	answers(t, k.Tick(), api.ErrReset)
	is(t, k, 10, 1, "reset", "stopped")
	answers(t, k.Boot(), nil)
	logs(t, k, last)
}

// No power is told ahead of a reset.
func TestOffAheadOfReset(t *testing.T) {
	n := blank(t, api.MaxBytes)
	k := watch(t, config(0, counted("a", 0), counted("b", 0)), n)
	begins(t, k, 0)
	resets(t, k)
	now, kicks := k.Now(), k.Kicks()
	fails(t, n)
	is(t, k, now, kicks, "off", "stopped")
	refused(t, k, api.ErrOff)
	answers(t, k.Boot(), nil)
	is(t, k, now, kicks, "on", "ok")
	if !n.Power() {
		t.Error("no power behind a boot")
	}
}

// P102

func TestBootOfOneThatIsOn(t *testing.T) {
	n := blank(t, api.MaxBytes)
	k := watch(t, config(2, ordered("a", 0)), n)
	answers(t, k.Boot(), api.ErrHeld)
	begins(t, k, 0)
	answers(t, n.Cut(5), nil)
	ticks(t, k, 2)
	answers(t, k.Report(0, 1), nil)
	answers(t, k.Boot(), api.ErrHeld)
	is(t, k, 2, 0, "on", "ok")
	statuses(t, k, "ok")
	answers(t, k.Tick(), api.ErrOff) // the cut was ahead still, and the report counts
	if n.Written() != 5 {
		t.Error("written:", n.Written())
	}
}

// Behind a boot all is as at the beginning but the log, the ticks and the kicks.
func TestBootBehindAReset(t *testing.T) {
	n := blank(t, api.MaxBytes)
	k := watch(t, config(1, counted("a", 1), spaced("b", 0)), n)
	begins(t, k, 0, 1)
	ticks(t, k, 2)
	answers(t, k.Report(1, 0), nil)
	var want []api.Record
	for range 3 {
		resets(t, k)
		now, kicks := k.Now(), k.Kicks()
		want = append(want, api.Record{Seq: len(want) + 1, Kind: api.Alive, Tick: now - 7})
		logs(t, k, want...)
		answers(t, k.Boot(), nil)
		is(t, k, now, kicks, "on", "ok")
		statuses(t, k, "idle", "idle")
		logs(t, k, want...)
		answers(t, k.Report(0, 0), api.ErrIdle)
		begins(t, k, 0)
		begins(t, k, 1)
		answers(t, k.Boot(), api.ErrHeld)
	}
	if n.Written() != 3*api.Slot {
		t.Error("written:", n.Written())
	}
	// b has no report ahead of the boot.
	answers(t, k.Report(1, 1), nil)
	ticks(t, k, 3)
	statuses(t, k, "ok", "expired")
}

// A delay begins anew behind a boot.
func TestBootMakesTheTotalAnew(t *testing.T) {
	k := watch(t, config(2, counted("a", 0)), blank(t, api.MaxBytes))
	for range 2 {
		begins(t, k, 0)
		var l []string
		for k.State() == "on" {
			if err := k.Tick(); err == nil && k.Now()%3 == 0 {
				l = append(l, k.Total())
			}
		}
		if s := strings.Join(l, " "); !strings.HasPrefix(s, "ok expired expired stopped") {
			t.Error(s)
		}
		answers(t, k.Boot(), nil)
	}
}

// The window begins at the tick of the boot, and cycles end where they always do.
func TestBootBeginsAWindow(t *testing.T) {
	for at := range 7 {
		n := blank(t, api.MaxBytes)
		k := watch(t, api.Config{Closed: 4, Open: 3, Cycle: 3}, n)
		ticks(t, k, at)
		kicks := k.Kicks()
		fails(t, n)
		is(t, k, at, kicks, "off", "ok")
		answers(t, k.Boot(), nil)
		is(t, k, at, kicks, "on", "ok")
		first := (at + 4 + 3) / 3 * 3 // the first multiple of 3 that is more than 4 behind it
		for k.Now() < first-1 {
			ticks(t, k, 1)
			is(t, k, k.Now(), kicks, "on", "ok")
		}
		ticks(t, k, 1)
		is(t, k, first, kicks+1, "on", "ok")
	}
}

// A cut that is ahead at a boot is none behind it, after a reset as after a cut.
func TestBootTakesACutAway(t *testing.T) {
	c := config(0, counted("a", 0))
	for _, behind := range []string{"reset", "off"} {
		n := blank(t, api.MaxBytes)
		k := watch(t, c, n)
		if behind == "off" {
			fails(t, n)
		} else {
			begins(t, k, 0)
			resets(t, k)
			answers(t, n.Cut(3), nil)
		}
		if k.State() != behind {
			t.Error(k.State())
		}
		had := k.Log()
		answers(t, k.Boot(), nil)
		begins(t, k, 0)
		resets(t, k)
		if l := k.Log(); len(l) != len(had)+1 {
			t.Errorf("%s: the log is %v", behind, l)
		}
	}
}

// The log is looked at anew: what came into the cells meanwhile is there.
func TestBootOpensTheLogAnew(t *testing.T) {
	n := blank(t, api.MaxBytes)
	k := watch(t, config(0, counted("a", 0)), n)
	other := watch(t, config(0, ordered("a", 0), ordered("b", 0)), n)
	begins(t, other, 1)
	answers(t, other.Report(1, 1), nil)
	ticks(t, other, 3)
	logs(t, k)
	fails(t, n)
	logs(t, k)
	if other.State() != "off" {
		t.Error("power of the same cells:", other.State())
	}
	answers(t, k.Boot(), nil)
	logs(t, k, api.Record{Seq: 1, Entity: 1, Kind: api.Flow, Tick: 3})
	if other.State() != "on" {
		t.Error("power of the same cells:", other.State())
	}
}

// Power that comes without a boot is power; but the ring that it left is of no
// more use until a boot, as package ring says.
func TestPowerWithoutABoot(t *testing.T) {
	n := blank(t, api.MaxBytes)
	k := watch(t, config(0, ordered("a", 0), ordered("b", 0)), n)
	begins(t, k, 0, 1)
	answers(t, k.Report(0, 1), nil)
	answers(t, n.Cut(4), nil)
	ticks(t, k, 2)
	answers(t, k.Tick(), api.ErrOff)
	n.On()
	is(t, k, 3, 0, "on", "ok")
	answers(t, k.Boot(), api.ErrHeld)
	answers(t, k.Report(1, 1), nil)
	ticks(t, k, 2)
	answers(t, k.Tick(), api.ErrOff)
	is(t, k, 6, 0, "on", "ok")
	if n.Written() != 4 {
		t.Error("written:", n.Written())
	}
}

// The README's motor.
func TestMotor(t *testing.T) {
	c, err := conf.Read("window 1 3\ncycle 2\ndelay 1\nentity motor 0\npoint turn\ncount turn 1 3\n")
	answers(t, err, nil)
	k := watch(t, c, blank(t, api.MaxBytes))
	begins(t, k, 0)
	ticks(t, k, 2)
	is(t, k, 2, 1, "on", "ok")
	answers(t, k.Report(0, 0), nil)
	ticks(t, k, 2)
	is(t, k, 4, 2, "on", "ok")
	ticks(t, k, 2)
	is(t, k, 6, 3, "on", "expired")
	logs(t, k, api.Record{Seq: 1, Kind: api.Alive, Tick: 6})
	ticks(t, k, 2)
	is(t, k, 8, 3, "on", "stopped")
	ticks(t, k, 2)
	answers(t, k.Tick(), api.ErrReset)
	is(t, k, 11, 3, "reset", "stopped")
	answers(t, k.Boot(), nil)
	is(t, k, 11, 3, "on", "ok")
	statuses(t, k, "idle")
	logs(t, k, api.Record{Seq: 1, Kind: api.Alive, Tick: 6})
}

// P103

func TestAskingChangesNothing(t *testing.T) {
	n := blank(t, api.MaxBytes)
	k := watch(t, config(1, counted("a", 0)), n)
	begins(t, k, 0)
	ticks(t, k, 6)
	for range 5 {
		is(t, k, 6, 2, "on", "expired")
		statuses(t, k, "expired")
		logs(t, k, api.Record{Seq: 1, Kind: api.Alive, Tick: 6})
	}
	fails(t, n)
	for range 5 {
		is(t, k, 6, 2, "off", "expired")
		statuses(t, k, "expired")
		logs(t, k, api.Record{Seq: 1, Kind: api.Alive, Tick: 6})
		_, err := k.Status(1)
		answers(t, err, api.ErrNone)
	}
	if n.Written() != api.Slot {
		t.Error("written:", n.Written())
	}
}

// A cut that is ahead is none yet: power is there until a byte is not written.
func TestACutAheadIsPower(t *testing.T) {
	n := blank(t, api.MaxBytes)
	k := watch(t, config(0, counted("a", 20)), n)
	answers(t, n.Cut(0), nil)
	begins(t, k, 0)
	ticks(t, k, 60) // 19 of its cycles were not well: it is not expired yet
	is(t, k, 60, 20, "on", "failed")
	ticks(t, k, 5)
	answers(t, k.Tick(), api.ErrOff)
	is(t, k, 66, 21, "off", "failed")
}

// P4

func TestConfigIsOnlyRead(t *testing.T) {
	c, same := config(1, counted("a", 0), ordered("b", 0)), config(1, counted("a", 0), ordered("b", 0))
	n := blank(t, api.MaxBytes)
	k := watch(t, c, n)
	look := func() {
		t.Helper()
		begins(t, k, 0, 1)
		answers(t, k.Report(1, 0), nil)
		answers(t, k.Report(1, 1), nil)
		ticks(t, k, 3-k.Now()%3)
		statuses(t, k, "ok", "ok")
		ticks(t, k, 3)
		statuses(t, k, "expired", "ok")
		resets(t, k)
		answers(t, k.Boot(), nil)
	}
	look()
	if !reflect.DeepEqual(c, same) {
		t.Errorf("the config is changed: %+v", c)
	}
	c.Closed, c.Open, c.Cycle, c.Delay = 9, 9, 9, 9
	c.Entities[1].Edges[0], c.Entities[1].First[0] = [2]int{1, 1}, 1
	c.Entities[0] = api.Entity{}
	look()
}

func TestLogIsNewMemory(t *testing.T) {
	k := watch(t, config(1, counted("a", 0)), blank(t, api.MaxBytes))
	begins(t, k, 0)
	ticks(t, k, 6)
	l := k.Log()
	l[0].Seq = 77
	logs(t, k, api.Record{Seq: 1, Kind: api.Alive, Tick: 6})
}

func TestKeepersShareNothing(t *testing.T) {
	c := config(0, counted("a", 0))
	a, b := watch(t, c, blank(t, api.MaxBytes)), watch(t, c, blank(t, api.MaxBytes))
	begins(t, a, 0)
	resets(t, a)
	is(t, b, 0, 0, "on", "ok")
	statuses(t, b, "idle")
	logs(t, b)
}

// P104

// windows goes through small windows, and each cycle that fits in.
func windows(each func(closed, open, cycle int)) {
	for closed := range 7 {
		for open := 1; open <= 6; open++ {
			for cycle := 1; cycle <= open; cycle++ {
				each(closed, open, cycle)
			}
		}
	}
	each(api.MaxWindow, api.MaxWindow, api.MaxCycle)
	each(api.MaxWindow, 1, 1)
	each(0, api.MaxWindow, 1)
	each(api.MaxWindow, api.MaxCycle, api.MaxCycle)
}

// Where all is well it is never reset, wherever a boot begins its window, and
// kicks only in the open part of one.
func TestWellIsNeverReset(t *testing.T) {
	windows(func(closed, open, cycle int) {
		c := api.Config{Closed: closed, Open: open, Cycle: cycle, Entities: []api.Entity{{Name: "a", Points: []string{"p"}, Count: 0, Min: 1, Max: api.MaxCycle}, ordered("b", 0)}}
		for at := range min(cycle, 8) {
			n := blank(t, api.MaxBytes)
			k := watch(t, c, n)
			ticks(t, k, at)
			fails(t, n)
			answers(t, k.Boot(), nil)
			begins(t, k, 0, 1)
			begun, kicks := at, k.Kicks()
			for range 8 * (closed + open) {
				answers(t, k.Report(0, 0), nil)
				ticks(t, k, 1)
				if k.Kicks() == kicks {
					continue
				}
				if behind := k.Now() - begun; k.Kicks() != kicks+1 || behind <= closed || behind > closed+open || k.Now()%cycle != 0 {
					t.Fatalf("%d, %d, %d: a kick at %d, the window began at %d", closed, open, cycle, k.Now(), begun)
				}
				begun, kicks = k.Now(), k.Kicks()
			}
			is(t, k, k.Now(), kicks, "on", "ok")
		}
	})
}

// Behind stopped it never kicks, whatever the entities do, until a boot; and it
// is reset where its window ends.
func TestBehindStopped(t *testing.T) {
	windows(func(closed, open, cycle int) {
		c := api.Config{Closed: closed, Open: open, Cycle: cycle, Delay: 1, Entities: []api.Entity{counted("a", 0), ordered("b", 0)}}
		k := watch(t, c, blank(t, api.MaxBytes))
		for range 2 {
			begun, kicks := k.Now(), k.Kicks()
			begins(t, k, 0)
			for k.State() == "on" {
				stopped := k.Total() == "stopped"
				_, _ = k.Stop(0), k.Begin(0)
				if !stopped { // so that b is expired in each window, whatever a cycle is
					_, _ = k.Begin(1), k.Report(1, 1)
				}
				err := k.Tick()
				if k.Kicks() > kicks && stopped {
					t.Fatalf("%d, %d, %d: a kick at %d", closed, open, cycle, k.Now())
				}
				if k.Kicks() > kicks {
					begun, kicks = k.Now(), k.Kicks()
				}
				if err != nil {
					answers(t, err, api.ErrReset)
				}
			}
			is(t, k, begun+closed+open+1, kicks, "reset", "stopped")
			answers(t, k.Boot(), nil)
		}
	})
}
