// Package given tests what is given whole: packages api and plain (P5). It stands aside so that their folders stay as they are.
package given

import (
	"errors"
	"testing"

	"nightwatch/api"
	"nightwatch/plain"
)

func TestNumbers(t *testing.T) {
	for _, x := range []struct {
		name      string
		got, want int
	}{
		{"MaxBytes", api.MaxBytes, 4096}, {"LogSize", api.LogSize, 8}, {"Slot", api.Slot, 17},
		{"MaxTick", api.MaxTick, 1099511627776}, {"MaxWindow", api.MaxWindow, 1000}, {"MaxCycle", api.MaxCycle, 100},
		{"MaxDelay", api.MaxDelay, 20}, {"MaxTolerance", api.MaxTolerance, 20}, {"MaxCount", api.MaxCount, 1000},
		{"MaxEntities", api.MaxEntities, 8}, {"MaxPoints", api.MaxPoints, 16}, {"MaxGaps", api.MaxGaps, 8},
		{"MaxEdges", api.MaxEdges, 64}, {"MaxName", api.MaxName, 12}, {"MaxText", api.MaxText, 8000},
		{"MaxSteps", api.MaxSteps, 3000}, {"MaxLines", api.MaxLines, 100}, {"Workers", api.Workers, 16},
		{"Alive", api.Alive, 1}, {"Gaps", api.Gaps, 2}, {"Flow", api.Flow, 3},
	} {
		if x.got != x.want {
			t.Errorf("%s is %d, want %d", x.name, x.got, x.want)
		}
	}
}

func TestErrors(t *testing.T) {
	for i, x := range []struct {
		err  error
		word string
	}{
		{api.ErrText, "text"}, {api.ErrBound, "bound"}, {api.ErrShape, "shape"}, {api.ErrName, "name"},
		{api.ErrNone, "none"}, {api.ErrExist, "exist"}, {api.ErrFull, "full"}, {api.ErrOff, "off"},
		{api.ErrIdle, "idle"}, {api.ErrHeld, "held"}, {api.ErrReset, "reset"},
	} {
		if x.err.Error() != "nightwatch: "+x.word {
			t.Errorf("error %d says %q", i+1, x.err)
		}
		if code, at := plain.Code(x.err); code != i+1 || at != -1 {
			t.Errorf("%v: code %d at %d", x.err, code, at)
		}
		f := &api.Fault{At: 7, Err: x.err}
		if code, at := plain.Code(f); code != i+1 || at != 7 || f.Error() != x.err.Error() || !errors.Is(f, x.err) {
			t.Errorf("%v with a place: code %d at %d", x.err, code, at)
		}
	}
}

func TestOtherErrors(t *testing.T) {
	if code, at := plain.Code(nil); code != 0 || at != -1 {
		t.Errorf("no error: code %d at %d", code, at)
	}
	if code, at := plain.Code(errors.New("nightwatch: off")); code != -1 || at != -1 {
		t.Errorf("another error: code %d at %d", code, at)
	}
}
