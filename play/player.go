package play

import (
	"nightwatch/api"
	"nightwatch/cells"
	"nightwatch/keeper"
	"nightwatch/plain"
)

// How many of each a number tells apart.
const (
	calls = 8
	ticks = 16
	cuts  = 64
)

// player of steps. The cells are embedded beside the keeper, since it has no cut
// of its own; they need not be those that the keeper writes to.
type player struct {
	*keeper.Keeper
	*cells.Cells
}

// answer of a step. A number below 0 is none: what is left of it would be below
// 0 too.
func (p player) answer(v int) int {
	if v < 0 {
		return -1
	}
	code, _ := plain.Code(p.step(v))
	return code
}

// step takes what is left as the call, and the rest as what it is told.
func (p player) step(v int) error {
	q := v / calls
	entity := q % api.MaxEntities
	switch v % calls {
	case 2:
		return p.Report(entity, q/api.MaxEntities%api.MaxPoints)
	case 3:
		return p.tickTimes(q % ticks)
	case 4:
		return p.Begin(entity)
	case 5:
		return p.Stop(entity)
	case 6:
		return p.Cut(q % cuts)
	case 7:
		return p.Boot()
	default: // 0 and 1
		return p.Tick()
	}
}

// tickTimes ends with the first error: behind one of a full log the keeper would
// go on ticking.
func (p player) tickTimes(n int) error {
	for range n {
		if err := p.Tick(); err != nil {
			return err
		}
	}
	return nil
}
