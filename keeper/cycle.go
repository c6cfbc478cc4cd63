package keeper

import (
	"nightwatch/api"
	"nightwatch/local"
	"nightwatch/ring"
	"nightwatch/total"
)

// renew makes all but the dog as at the beginning. The log is opened anew: the
// ring that power left is of no more use. A local that is stopped is as at the
// beginning, and one that is idle is so already: its error is none here.
func (k *Keeper) renew() error {
	r, err := ring.Open(k.cells)
	if err != nil {
		return err
	}
	t, err := total.New(k.delay)
	if err != nil {
		return err
	}
	k.ring, k.total = r, t
	for _, l := range k.locals {
		_ = l.Stop()
	}
	return nil
}

// end of a cycle. Where the log fails all else is left undone: so a dog is not
// kicked for causes that are not written down.
func (k *Keeper) end() error {
	statuses := make([]string, 0, len(k.locals))
	for i, l := range k.locals {
		if err := k.endOf(i, l); err != nil {
			return err
		}
		statuses = append(statuses, l.Status())
	}
	k.total.End(statuses)
	if !k.total.May() {
		return nil
	}
	return k.dog.feed()
}

func (k *Keeper) endOf(entity int, l *local.Local) error {
	kind, expired := l.End()
	if !expired {
		return nil
	}
	_, err := k.ring.Append(entity, kind, k.Now())
	return err
}

// ready tells what stands in the way of all that goes on only while it is on.
func (k *Keeper) ready() error {
	switch k.State() {
	case off:
		return api.ErrOff
	case reset:
		return api.ErrReset
	}
	return nil
}

// reach an entity that is told something: only while the keeper is on.
func (k *Keeper) reach(entity int) (*local.Local, error) {
	if err := k.ready(); err != nil {
		return nil, err
	}
	return k.find(entity)
}

func (k *Keeper) find(entity int) (*local.Local, error) {
	if entity < 0 || entity >= len(k.locals) {
		return nil, api.ErrNone
	}
	return k.locals[entity], nil
}
