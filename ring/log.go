package ring

import (
	"nightwatch/api"
	"nightwatch/cells"
)

// One slot more than records: the one that is written over holds none of the
// last LogSize, so that a cut there loses none of them.
const (
	slots = api.LogSize + 1
	ended = 165 // the last byte of a slot that is written to its end
)

// log is the slots on their cells. The cells are embedded here and not in Ring:
// there their calls would be the ring's own, and a spent one could be written.
type log struct{ *cells.Cells }

func slotOf(seq int) int { return (seq - 1) % slots }

// held are the records of all slots; Seq is 0 where a slot holds none.
func (l log) held() ([slots]api.Record, error) {
	var h [slots]api.Record
	b, err := l.Read(0, slots*api.Slot)
	if err != nil {
		return h, err
	}
	for i := range h {
		x, ok := decode(b[i*api.Slot : (i+1)*api.Slot])
		if ok && slotOf(x.Seq) == i {
			h[i] = x
		}
	}
	return h, nil
}

// put writes a record so that its slot holds it only when all of it is there:
// without its last byte, old and new bytes side by side are no record.
func (l log) put(x api.Record) error {
	at := slotOf(x.Seq) * api.Slot
	end := at + api.Slot - 1
	b := encode(x)
	if err := l.zero(end); err != nil {
		return err
	}
	if err := l.Write(at, b[:api.Slot-1]); err != nil {
		return err
	}
	return l.Write(end, b[api.Slot-1:])
}

// zero leaves a byte alone that is 0 already: each byte written counts.
func (l log) zero(at int) error {
	b, err := l.Read(at, 1)
	if err != nil || b == "\x00" {
		return err
	}
	return l.Write(at, "\x00")
}
