package conf

import (
	"slices"

	"nightwatch/api"
	"nightwatch/dog"
)

// rule of what is right, and the error where it is broken. Rules stand in lists,
// in the order in which their errors are told.
type rule[T any] struct {
	err    error
	broken func(T) bool
}

func firstBroken[T any](x T, rules ...rule[T]) error {
	for _, r := range rules {
		if r.broken(x) {
			return r.err
		}
	}
	return nil
}

func configRules() []rule[api.Config] {
	return []rule[api.Config]{
		{api.ErrBound, func(c api.Config) bool { return !isWindow(c.Closed, c.Open) }},
		{api.ErrBound, func(c api.Config) bool { return !within(c.Cycle, 1, api.MaxCycle) }},
		{api.ErrBound, func(c api.Config) bool { return !within(c.Delay, 0, api.MaxDelay) }},
		{api.ErrBound, func(c api.Config) bool { return len(c.Entities) > api.MaxEntities }},
		{api.ErrShape, func(c api.Config) bool { return c.Cycle > c.Open }},
	}
}

// nameRules are made anew for each list of names: they know which were ahead.
func nameRules() []rule[string] {
	ahead := map[string]struct{}{}
	return []rule[string]{
		{api.ErrName, func(s string) bool { return !isName(s) }},
		{api.ErrExist, func(s string) bool {
			_, was := ahead[s]
			ahead[s] = struct{}{}
			return was
		}},
	}
}

func sizeRules() []rule[api.Entity] {
	return []rule[api.Entity]{
		{api.ErrBound, func(e api.Entity) bool { return !within(e.Tolerance, 0, api.MaxTolerance) }},
		{api.ErrBound, func(e api.Entity) bool { return len(e.Points) > api.MaxPoints }},
		{api.ErrBound, func(e api.Entity) bool { return len(e.Gaps) > api.MaxGaps }},
		{api.ErrBound, func(e api.Entity) bool { return len(e.Edges) > api.MaxEdges }},
		{api.ErrBound, func(e api.Entity) bool { return len(e.First) > api.MaxPoints }},
		{api.ErrBound, func(e api.Entity) bool { return len(e.Last) > api.MaxPoints }},
	}
}

func partRules() []rule[api.Entity] {
	return []rule[api.Entity]{
		{api.ErrNone, func(e api.Entity) bool { return e.Count != -1 && lacks(e, e.Count) }},
		{api.ErrNone, func(e api.Entity) bool {
			return slices.ContainsFunc(e.Gaps, func(g api.Gap) bool { return lacks(e, g.From, g.To) })
		}},
		{api.ErrNone, func(e api.Entity) bool {
			return slices.ContainsFunc(e.Edges, func(d [2]int) bool { return lacks(e, d[0], d[1]) })
		}},
		{api.ErrNone, func(e api.Entity) bool { return lacks(e, e.First...) }},
		{api.ErrNone, func(e api.Entity) bool { return lacks(e, e.Last...) }},
		{api.ErrShape, func(e api.Entity) bool { return e.Count == -1 && (e.Min != 0 || e.Max != 0) }},
		{api.ErrBound, func(e api.Entity) bool { return !rise(0, e.Min, e.Max, api.MaxCount-1) }},
		{api.ErrBound, func(e api.Entity) bool {
			return slices.ContainsFunc(e.Gaps, func(g api.Gap) bool { return !rise(0, g.Min, g.Max, api.MaxTick) })
		}},
		{api.ErrExist, func(e api.Entity) bool { return twice(e.Edges) }},
		{api.ErrExist, func(e api.Entity) bool { return twice(e.First) }},
		{api.ErrExist, func(e api.Entity) bool { return twice(e.Last) }},
		{api.ErrShape, func(e api.Entity) bool { return len(e.Edges) > 0 && len(e.First) == 0 }},
		{api.ErrShape, func(e api.Entity) bool { return len(e.Edges) == 0 && len(e.First)+len(e.Last) > 0 }},
	}
}

// checkEntity asks for the sizes ahead of the points: the lists that the rules
// behind go through are short then.
func checkEntity(e api.Entity, names []rule[string]) error {
	if err := firstBroken(e.Name, names...); err != nil {
		return err
	}
	if err := firstBroken(e, sizeRules()...); err != nil {
		return err
	}
	points := nameRules()
	for _, p := range e.Points {
		if err := firstBroken(p, points...); err != nil {
			return err
		}
	}
	return firstBroken(e, partRules()...)
}

// isWindow asks the dog, which knows what windows it can have.
func isWindow(closed, open int) bool {
	_, err := dog.New(closed, open)
	return err == nil
}

func isName(s string) bool {
	if !within(len(s), 1, api.MaxName) || !isLetter(s[0]) {
		return false
	}
	for _, b := range []byte(s) {
		if !isLetter(b) && !isDigit(b) && b != '-' {
			return false
		}
	}
	return true
}

func isLetter(b byte) bool { return b >= 'a' && b <= 'z' }

func isDigit(b byte) bool { return b >= '0' && b <= '9' }

func within(n, least, most int) bool { return n >= least && n <= most }

func rise(l ...int) bool { return slices.IsSorted(l) }

// lacks tells whether one of these is no point of the entity.
func lacks(e api.Entity, points ...int) bool {
	return slices.ContainsFunc(points, func(p int) bool { return p < 0 || p >= len(e.Points) })
}

func twice[T comparable](l []T) bool {
	for i, x := range l {
		if slices.Contains(l[:i], x) {
			return true
		}
	}
	return false
}
