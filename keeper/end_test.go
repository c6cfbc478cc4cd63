package keeper

import (
	"reflect"
	"testing"
	"unsafe"

	"nightwatch/api"
	"nightwatch/cells"
	"nightwatch/dog"
)

// setTick moves a dog to a tick at which a window begins. No test could tick
// that often, and the dog shows its numbers to nobody.
func setTick(d *dog.Dog, tick int) {
	for _, name := range []string{"now", "begun"} {
		f := reflect.ValueOf(d).Elem().FieldByName(name)
		*(*int)(unsafe.Pointer(f.UnsafeAddr())) = tick
	}
}

// endOfTicks is a keeper some ticks ahead of the last one there is, at which a
// cycle ends, with an entity that must report once in each cycle.
func endOfTicks(t *testing.T, ahead int) *Keeper {
	t.Helper()
	n, err := cells.New(api.MaxBytes)
	if err != nil {
		t.Fatal(err)
	}
	e := api.Entity{Name: "a", Points: []string{"p"}, Count: 0, Min: 1, Max: 1}
	k, err := New(api.Config{Closed: 1, Open: 4, Cycle: 2, Delay: 5, Entities: []api.Entity{e}}, n)
	if err != nil {
		t.Fatal(err)
	}
	setTick(k.dog.Dog, api.MaxTick-ahead)
	return k
}

// P101

// The last tick ends a cycle like any other, once: behind it the dog's error is
// answered, and nothing else happens.
func TestLastTick(t *testing.T) {
	k := endOfTicks(t, 4)
	if err := k.Begin(0); err != nil {
		t.Fatal(err)
	}
	for range 4 {
		if err := k.Tick(); err != nil {
			t.Fatal(k.Now(), err)
		}
	}
	for i := range 5 {
		if r, is := k.Cause(); !is || r != (api.Record{Seq: 1, Kind: api.Alive, Tick: api.MaxTick}) {
			t.Error(r, is)
		}
		s, err := k.Status(0)
		if s != "expired" || err != nil || k.Total() != "expired" || k.Now() != api.MaxTick || k.Kicks() != 2 || k.State() != "on" {
			t.Error(i, s, err, k.Total(), k.Now(), k.Kicks(), k.State())
		}
		if err := k.Tick(); err != api.ErrBound {
			t.Error(i, err)
		}
	}
	if k.Boot() != api.ErrHeld || k.Stop(0) != nil || k.Begin(0) != nil || k.Report(0, 0) != nil {
		t.Error("it is not on at the last tick")
	}
}

// P104

// Nobody but the keeper itself can kick or start its dog.
func TestTheDogIsItsOwn(t *testing.T) {
	var k any = endOfTicks(t, 4)
	if _, is := k.(interface{ Kick() error }); is {
		t.Error("Kick is shown")
	}
	if _, is := k.(interface{ Start() }); is {
		t.Error("Start is shown")
	}
}
