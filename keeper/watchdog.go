package keeper

import (
	"nightwatch/api"
	"nightwatch/dog"
)

// watchdog that knows where cycles end. The dog is embedded here and not in
// Keeper: there its calls would be the keeper's own, and anybody could kick it.
type watchdog struct {
	*dog.Dog
	cycle int // ticks
}

// step goes one tick on, and tells whether a cycle ends with it. A reset, which
// the dog's Tick leaves to be asked for, is an error here.
func (w watchdog) step() (ended bool, err error) {
	if err := w.Tick(); err != nil {
		return false, err
	}
	if w.Reset() {
		return false, api.ErrReset
	}
	return w.Now()%w.cycle == 0, nil
}

// feed kicks it where that is well: in the closed part a kick would reset it.
func (w watchdog) feed() error {
	if !w.Open() {
		return nil
	}
	return w.Kick()
}
