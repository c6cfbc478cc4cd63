package dog

import (
	"testing"

	"nightwatch/api"
)

// endOfTicks is a dog that is some ticks ahead of the last one there is: no
// test could tick that often, so its numbers are set.
func endOfTicks(t *testing.T, ahead int) *Dog {
	t.Helper()
	d, err := New(1, 2)
	if err != nil {
		t.Fatal(err)
	}
	d.now, d.begun = api.MaxTick-ahead, api.MaxTick-ahead
	return d
}

func same(t *testing.T, d *Dog, want Dog) {
	t.Helper()
	if *d != want {
		t.Errorf("got %+v, want %+v", *d, want)
	}
}

// P30

func TestLastTick(t *testing.T) {
	d := endOfTicks(t, 1)
	if err := d.Tick(); err != nil || d.Now() != api.MaxTick || d.Reset() {
		t.Fatal(err, d.Now(), d.Reset())
	}
	before := *d
	for range 5 {
		if err := d.Tick(); err != api.ErrBound {
			t.Error("behind the last tick:", err)
		}
		same(t, d, before)
	}
}

func TestLastTickOfAWindow(t *testing.T) {
	d := endOfTicks(t, 3)
	for range 3 {
		if err := d.Tick(); err != nil {
			t.Fatal(err)
		}
	}
	before := *d
	if err := d.Tick(); err != api.ErrBound {
		t.Error(err)
	}
	same(t, d, before)
	if !d.Open() || d.Kick() != nil || d.Kicks() != 1 {
		t.Error("no kick at the last tick")
	}
}

func TestResetIsToldAheadOfTheLastTick(t *testing.T) {
	d := endOfTicks(t, 4)
	for range 4 {
		if err := d.Tick(); err != nil {
			t.Fatal(err)
		}
	}
	if !d.Reset() || d.Now() != api.MaxTick {
		t.Fatal(d.Reset(), d.Now())
	}
	if err := d.Tick(); err != api.ErrReset {
		t.Error(err)
	}
	d.Start()
	if err := d.Tick(); err != api.ErrBound || d.Reset() || d.Now() != api.MaxTick {
		t.Error(err, d.Reset(), d.Now())
	}
}
