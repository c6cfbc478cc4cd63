package keeper_test

import (
	"math/rand"
	"slices"
	"testing"

	"nightwatch/api"
	"nightwatch/cells"
	"nightwatch/keeper"
	"nightwatch/local"
	"nightwatch/total"
)

// model of a keeper, as the chapter says it. Windows and bytes are worked out
// here; locals and the total are the program's, which have tests of their own.
type model struct {
	api.Config
	now, begun, kicks int
	off, reset        bool
	cut               int // bytes up to it; -1: none is ahead
	written           int
	log               []api.Record
	ended             [api.LogSize + 1]bool // slots whose last byte is not 0
	locals            []*local.Local
	total             *total.Total
}

func newModel(t *testing.T, c api.Config) *model {
	m := &model{Config: c}
	m.renew(t)
	return m
}

func (m *model) renew(t *testing.T) {
	t.Helper()
	var err error
	m.total, err = total.New(m.Delay)
	answers(t, err, nil)
	m.locals = nil
	for _, e := range m.Entities {
		m.locals = append(m.locals, local.New(e))
	}
	m.begun, m.off, m.reset, m.cut = m.now, false, false, -1
}

func (m *model) state() string {
	switch {
	case m.off:
		return "off"
	case m.reset:
		return "reset"
	}
	return "on"
}

// barred is why nothing goes on.
func (m *model) barred() error {
	return map[string]error{"off": api.ErrOff, "reset": api.ErrReset}[m.state()]
}

func (m *model) ask(entity int, call func(*local.Local) error) error {
	if err := m.barred(); err != nil {
		return err
	}
	if entity < 0 || entity >= len(m.locals) {
		return api.ErrNone
	}
	return call(m.locals[entity])
}

func (m *model) tick() error {
	if err := m.barred(); err != nil {
		return err
	}
	m.now++
	behind := m.now - m.begun
	if behind > m.Closed+m.Open {
		m.reset = true
		return api.ErrReset
	}
	if m.now%m.Cycle != 0 {
		return nil
	}
	var l []string
	for i, x := range m.locals {
		if kind, expired := x.End(); expired && !m.write(api.Record{Seq: len(m.log) + 1, Entity: i, Kind: kind, Tick: m.now}) {
			return api.ErrOff
		}
		l = append(l, x.Status())
	}
	if m.total.End(l) != "stopped" && behind > m.Closed {
		m.begun = m.now
		m.kicks++
	}
	return nil
}

// write tells whether the whole record was written ahead of the cut.
func (m *model) write(r api.Record) bool {
	slot := (r.Seq - 1) % len(m.ended)
	need := api.Slot
	if m.ended[slot] {
		need++
	}
	if m.cut >= 0 && m.cut < need {
		m.off = true
		m.ended[slot] = m.ended[slot] && m.cut == 0
		m.written += m.cut
		return false
	}
	if m.cut >= 0 {
		m.cut -= need
	}
	m.ended[slot] = true
	m.written += need
	m.log = append(m.log, r)
	return true
}

func (m *model) boot(t *testing.T) error {
	t.Helper()
	if m.state() == "on" {
		return api.ErrHeld
	}
	m.renew(t)
	return nil
}

func (m *model) cutAt(n int) error {
	if m.off {
		return api.ErrOff
	}
	m.cut = n
	return nil
}

// some config of small numbers, so that all that there is comes soon.
func some(r *rand.Rand) api.Config {
	c := api.Config{Closed: r.Intn(5), Open: 1 + r.Intn(6), Delay: r.Intn(3)}
	c.Cycle = 1 + r.Intn(c.Open)
	for i := range r.Intn(4) {
		name := string(rune('a' + i))
		e := []api.Entity{counted(name, r.Intn(3)), ordered(name, r.Intn(3)), spaced(name, r.Intn(3)), {Name: name, Count: -1}}[r.Intn(4)]
		c.Entities = append(c.Entities, e)
	}
	return c
}

// same tells all that can be asked of both.
func same(t *testing.T, k *keeper.Keeper, n *cells.Cells, m *model) {
	t.Helper()
	is(t, k, m.now, m.kicks, m.state(), m.total.Status())
	for i, l := range m.locals {
		if s, err := k.Status(i); s != l.Status() || err != nil {
			t.Errorf("entity %d: got %q, %v, want %s", i, s, err, l.Status())
		}
	}
	logs(t, k, m.log[max(0, len(m.log)-api.LogSize):]...)
	if n.Written() != m.written || n.Power() == m.off {
		t.Errorf("written %d, power %t, want %d, %t", n.Written(), n.Power(), m.written, !m.off)
	}
}

func step(t *testing.T, r *rand.Rand, k *keeper.Keeper, n *cells.Cells, m *model) {
	t.Helper()
	entity, point := r.Intn(len(m.locals)+2)-1, r.Intn(4)-1
	if r.Intn(8) > 0 && len(m.locals) > 0 { // most of them are right ones
		entity, point = r.Intn(len(m.locals)), r.Intn(2)
	}
	switch d := r.Intn(100); {
	case d < 50:
		answers(t, k.Tick(), m.tick())
	case d < 70:
		answers(t, k.Report(entity, point), m.ask(entity, func(l *local.Local) error { return l.Report(point, m.now) }))
	case d < 85:
		answers(t, k.Begin(entity), m.ask(entity, (*local.Local).Begin))
	case d < 88:
		answers(t, k.Stop(entity), m.ask(entity, (*local.Local).Stop))
	case d < 91:
		bytes := r.Intn(60)
		answers(t, n.Cut(bytes), m.cutAt(bytes))
	default:
		answers(t, k.Boot(), m.boot(t))
	}
	same(t, k, n, m)
}

// P100 to P104, against the model. What the search must have met on its way is
// counted: else it could be well because nothing happens in it.
func TestAgainstTheModel(t *testing.T) {
	r := rand.New(rand.NewSource(100))
	met := map[string]int{}
	for range 1500 {
		c := some(r)
		n := blank(t, api.MaxBytes)
		k, m := watch(t, c, n), newModel(t, c)
		for range 300 {
			step(t, r, k, n, m)
			if t.Failed() {
				t.Fatalf("%+v", m)
			}
			met[m.state()]++
			met[m.total.Status()]++
			if len(m.log) > api.LogSize+1 {
				met["round"]++
			}
		}
	}
	for _, w := range []string{"on", "off", "reset", "ok", "failed", "expired", "stopped", "round"} {
		if met[w] < 1000 {
			t.Errorf("%s is met %d times", w, met[w])
		}
	}
}

// P2: the same calls have the same answers, also beside other keepers.
func TestSameCallsSameAnswers(t *testing.T) {
	play := func(n *cells.Cells, k *keeper.Keeper, between func()) []string {
		var l []string
		tell := func(err error) {
			s := "nil"
			if err != nil {
				s = err.Error()
			}
			l = append(l, s, k.State(), k.Total())
			between()
		}
		r := rand.New(rand.NewSource(2))
		for range 400 {
			switch r.Intn(8) {
			case 0:
				tell(k.Begin(r.Intn(2)))
			case 1:
				tell(k.Report(r.Intn(2), r.Intn(2)))
			case 2:
				tell(k.Boot())
			case 3:
				tell(n.Cut(r.Intn(40)))
			default:
				tell(k.Tick())
			}
		}
		return l
	}
	c := config(1, counted("a", 0), ordered("b", 1))
	a, b, other := blank(t, api.MaxBytes), blank(t, api.MaxBytes), watch(t, c, blank(t, api.MaxBytes))
	first := play(a, watch(t, c, a), func() {})
	second := play(b, watch(t, c, b), func() { _, _, _ = other.Tick(), other.Begin(0), other.Boot() })
	if !slices.Equal(first, second) || a.Bytes() != b.Bytes() {
		t.Error("two plays of the same calls are not the same")
	}
}
