package local

import (
	"slices"

	"nightwatch/alive"
	"nightwatch/api"
	"nightwatch/flow"
	"nightwatch/gaps"
)

// watch over an entity that is active. Its parts are fields, not embedded: else
// a Local, which embeds the watch, would show them to its callers.
type watch struct {
	alive *alive.Alive
	gaps  *gaps.Gaps
	flow  *flow.Flow
}

func newWatch(e api.Entity) watch {
	return watch{alive: alive.New(e), gaps: gaps.New(e), flow: flow.New(e)}
}

// report is handed to all three.
func (w *watch) report(point, tick int) {
	w.alive.Report(point)
	w.gaps.Report(point, tick)
	w.flow.Report(point)
}

// end tells which one was not well first; 0: none. All three are asked, whatever
// the first one says: what is bad in this cycle is not to be so in the next one.
func (w *watch) end(whole bool) int {
	often, between, order := w.alive.End(whole), w.gaps.End(), w.flow.End()
	switch {
	case !often:
		return api.Alive
	case !between:
		return api.Gaps
	case !order:
		return api.Flow
	}
	return 0
}

// copyOf an entity: it shares no list with the one that was handed over.
func copyOf(e api.Entity) api.Entity {
	e.Points = slices.Clone(e.Points)
	e.Gaps = slices.Clone(e.Gaps)
	e.Edges = slices.Clone(e.Edges)
	e.First = slices.Clone(e.First)
	e.Last = slices.Clone(e.Last)
	return e
}
