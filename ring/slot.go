package ring

import "nightwatch/api"

// encode a record as the bytes of its slot.
func encode(x api.Record) string {
	b := make([]byte, 0, api.Slot)
	b = add(b, x.Seq, 4)
	b = add(b, x.Entity, 1)
	b = add(b, x.Kind, 1)
	b = add(b, x.Tick, 6)
	b = add(b, int(sum(b)), 4)
	return string(append(b, ended))
}

// decode the bytes of a slot. What would not be encoded so is no record: that
// asks for the sum and the last byte.
func decode(b string) (api.Record, bool) {
	x := api.Record{Seq: number(b[:4]), Entity: number(b[4:5]), Kind: number(b[5:6]), Tick: number(b[6:12])}
	if x.Seq < 1 || encode(x) != b {
		return api.Record{}, false
	}
	return x, true
}

// add writes a number in n bytes, the highest first.
func add(b []byte, v, n int) []byte {
	for i := n - 1; i >= 0; i-- {
		b = append(b, byte(v>>(8*i)))
	}
	return b
}

func number(b string) int {
	v := 0
	for i := range len(b) {
		v = v<<8 | int(b[i])
	}
	return v
}

// sum is worked out bit by bit: twelve bytes are too few to be worth a table.
func sum(b []byte) uint32 {
	s := ^uint32(0)
	for _, v := range b {
		s ^= uint32(v)
		for range 8 {
			s = s>>1 ^ 0xEDB88320*(s&1)
		}
	}
	return ^s
}
