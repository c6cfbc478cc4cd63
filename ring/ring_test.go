package ring_test

import (
	"encoding/binary"
	"hash/crc32"
	"math"
	"slices"
	"strings"
	"testing"

	"nightwatch/api"
	"nightwatch/cells"
	"nightwatch/ring"
)

const (
	slots   = api.LogSize + 1
	all     = slots * api.Slot
	maxSeq  = 1<<32 - 1
	maxTick = 1<<48 - 1
)

func blank(t *testing.T, size int) *cells.Cells {
	t.Helper()
	c, err := cells.New(size)
	if err != nil {
		t.Fatal(err)
	}
	return c
}

func open(t *testing.T, c *cells.Cells) *ring.Ring {
	t.Helper()
	r, err := ring.Open(c)
	if err != nil || r == nil {
		t.Fatalf("Open: %v", err)
	}
	return r
}

func add(t *testing.T, r *ring.Ring, entity, kind, tick int) api.Record {
	t.Helper()
	x, err := r.Append(entity, kind, tick)
	if err != nil || x.Entity != entity || x.Kind != kind || x.Tick != tick {
		t.Fatalf("Append(%d, %d, %d): %v, %v", entity, kind, tick, x, err)
	}
	return x
}

// slot is the bytes of a record, made by the library and not by the program.
func slot(x api.Record) string {
	b := binary.BigEndian.AppendUint32(nil, uint32(x.Seq))
	b = append(b, byte(x.Entity), byte(x.Kind))
	b = append(b, binary.BigEndian.AppendUint64(nil, uint64(x.Tick))[2:]...)
	b = binary.BigEndian.AppendUint32(b, crc32.ChecksumIEEE(b))
	return string(append(b, 165))
}

func numbered(seq int) api.Record {
	return api.Record{Seq: seq, Entity: seq % 7, Kind: seq % 5, Tick: (seq*1001 + 3) & maxTick}
}

// laid is cells with these bytes in these slots, and other bytes in the rest.
func laid(t *testing.T, in map[int]string) *cells.Cells {
	t.Helper()
	b := ""
	for i := range slots {
		s, ok := in[i]
		if !ok {
			s = strings.Repeat("\xa5", api.Slot)
		}
		b += s
	}
	c, err := cells.From(b)
	if err != nil {
		t.Fatal(err)
	}
	return c
}

// of is cells with these records in the slots where they belong.
func of(t *testing.T, seqs ...int) *cells.Cells {
	t.Helper()
	in := map[int]string{}
	for _, s := range seqs {
		in[(s-1)%slots] = slot(numbered(s))
	}
	return laid(t, in)
}

func seqs(l []api.Record) []int {
	var s []int
	for _, x := range l {
		s = append(s, x.Seq)
	}
	return s
}

func tells(t *testing.T, r *ring.Ring, want ...api.Record) {
	t.Helper()
	if l := r.Records(); !slices.Equal(l, want) {
		t.Errorf("Records: %v, want %v", l, want)
	}
	x, ok := r.Last()
	if len(want) == 0 {
		if ok || x != (api.Record{}) {
			t.Errorf("Last of nothing: %v, %v", x, ok)
		}
		return
	}
	if !ok || x != want[len(want)-1] {
		t.Errorf("Last: %v, %v, want %v", x, ok, want[len(want)-1])
	}
}

// The errors of this package are bare: == and not errors.Is.
func refuses(t *testing.T, r *ring.Ring, entity, kind, tick int, want error) {
	t.Helper()
	x, err := r.Append(entity, kind, tick)
	if x != (api.Record{}) || err != want {
		t.Errorf("Append(%d, %d, %d): %v, %v, want %v", entity, kind, tick, x, err, want)
	}
}

// P20

func TestBytesOfARecord(t *testing.T) {
	c := blank(t, all)
	add(t, open(t, c), 0xAB, 0xCD, 0x010203040506)
	want := "\x00\x00\x00\x01\xab\xcd\x01\x02\x03\x04\x05\x06\x06\x77\x01\x3a\xa5" + strings.Repeat("\x00", all-api.Slot)
	if b := c.Bytes(); b != want {
		t.Errorf("got %x, want %x", b, want)
	}
}

func TestSlotOfARecord(t *testing.T) {
	c := blank(t, all+3)
	r := open(t, c)
	want := []byte(c.Bytes())
	for i := range 4*slots + 2 {
		x := add(t, r, i%256, 255-i, i*i)
		copy(want[i%slots*api.Slot:], slot(x))
		if c.Bytes() != string(want) {
			t.Fatalf("record %d: got %x, want %x", i+1, c.Bytes(), want)
		}
	}
}

func TestNumbersAtTheirBounds(t *testing.T) {
	for _, x := range []api.Record{
		{Seq: 1}, {Seq: 1, Entity: 255, Kind: 255, Tick: maxTick},
		{Seq: maxSeq}, {Seq: maxSeq, Entity: 255, Kind: 255, Tick: maxTick},
		{Seq: 1 << 31, Entity: 128, Kind: 1, Tick: 1 << 47}, {Seq: 0x01020304, Kind: 200, Tick: 255},
	} {
		tells(t, open(t, laid(t, map[int]string{(x.Seq - 1) % slots: slot(x)})), x)
	}
}

func TestSlotsThatHoldNothing(t *testing.T) {
	good := slot(numbered(5))
	turn := func(s string, at int, by byte) string {
		b := []byte(s)
		b[at] ^= by
		return string(b)
	}
	bad := map[string]string{
		"all 0":                                strings.Repeat("\x00", api.Slot),
		"all 165":                              strings.Repeat("\xa5", api.Slot),
		"all 255":                              strings.Repeat("\xff", api.Slot),
		"last byte 0":                          good[:16] + "\x00",
		"last byte 164":                        good[:16] + "\xa4",
		"sum turned round":                     good[:12] + string([]byte{good[15], good[14], good[13], good[12]}) + good[16:],
		"sum of no bytes":                      good[:12] + "\x00\x00\x00\x00\xa5",
		"number 0":                             slot(api.Record{Seq: 0, Entity: 1, Kind: 1, Tick: 1}),
		"one slot too soon":                    slot(numbered(6)),
		"one slot too late":                    slot(numbered(4)),
		"Seq as it would be, counted from 0":   slot(numbered(4 + slots)),
		"Seq as it would be, in LogSize slots": slot(numbered(5 + api.LogSize)),
	}
	for name, b := range bad {
		if l := open(t, laid(t, map[int]string{4: b})).Records(); len(l) != 0 {
			t.Errorf("%s: %v", name, l)
		}
		if l := open(t, laid(t, map[int]string{4: b, 1: slot(numbered(2))})).Records(); !slices.Equal(seqs(l), []int{2}) {
			t.Errorf("%s, beside a record: %v", name, l)
		}
	}
	for at := range api.Slot {
		for bit := range 8 {
			c := laid(t, map[int]string{4: turn(good, at, 1<<bit), 5: slot(numbered(6))})
			tells(t, open(t, c), numbered(6))
		}
	}
	tells(t, open(t, laid(t, map[int]string{4: good})), numbered(5))
}

func TestNumberZeroBelongsNowhere(t *testing.T) {
	for i := range slots {
		tells(t, open(t, laid(t, map[int]string{i: slot(api.Record{Entity: 1, Kind: 2, Tick: 3})})))
	}
}

// P21

func TestOpenErrors(t *testing.T) {
	off := func(size int) *cells.Cells {
		c := blank(t, size)
		c.Cut(0)
		c.Write(0, "x")
		return c
	}
	for i, x := range []struct {
		c    *cells.Cells
		want error
	}{
		{nil, api.ErrShape},
		{blank(t, 0), api.ErrBound}, {blank(t, all-1), api.ErrBound}, {blank(t, api.LogSize*api.Slot), api.ErrBound},
		{off(all - 1), api.ErrBound}, {off(all), api.ErrOff}, {off(api.MaxBytes), api.ErrOff},
	} {
		if r, err := ring.Open(x.c); r != nil || err != x.want {
			t.Errorf("%d: %v, %v, want %v", i, r, err, x.want)
		}
	}
	tells(t, open(t, blank(t, all)))
	tells(t, open(t, blank(t, api.MaxBytes)))
}

func TestOpenWritesNothing(t *testing.T) {
	for _, c := range []*cells.Cells{blank(t, all), of(t, 1, 2, 3), of(t), of(t, 8, 9, 10, 11, 12, 13, 14, 15, 16)} {
		before := c.Bytes()
		c.Cut(0)
		open(t, c).Records()
		if c.Bytes() != before || c.Written() != 0 || !c.Power() {
			t.Errorf("%x, was %x; %d written", c.Bytes(), before, c.Written())
		}
	}
}

func TestRecordsOfWhatIsHeld(t *testing.T) {
	for _, x := range []struct{ held, want []int }{
		{nil, nil},
		{[]int{1}, []int{1}},
		{[]int{7}, []int{7}},
		{[]int{1, 2, 3}, []int{1, 2, 3}},
		{[]int{1, 2, 3, 4, 5, 6, 7, 8}, []int{1, 2, 3, 4, 5, 6, 7, 8}},
		{[]int{1, 2, 3, 4, 5, 6, 7, 8, 9}, []int{2, 3, 4, 5, 6, 7, 8, 9}},
		{[]int{14, 15, 16, 17, 18, 19, 20, 21, 22}, []int{15, 16, 17, 18, 19, 20, 21, 22}},
		{[]int{15, 16, 17, 18, 19, 20, 21, 22}, []int{15, 16, 17, 18, 19, 20, 21, 22}},
		{[]int{1, 2, 4, 5}, []int{4, 5}},
		{[]int{1, 2, 3, 5}, []int{5}},
		{[]int{2, 3, 4, 5}, []int{2, 3, 4, 5}},
		{[]int{1, 2, 3, 100}, []int{100}},
		{[]int{3, 4, 95, 96, 97}, []int{95, 96, 97}},
		{[]int{10, 2, 3}, []int{10}},
		{[]int{9, 10, 2}, []int{9, 10}},
		{[]int{maxSeq - 1, maxSeq, 1}, []int{maxSeq - 1, maxSeq}},
	} {
		r := open(t, of(t, x.held...))
		if l := r.Records(); !slices.Equal(seqs(l), x.want) {
			t.Errorf("of %v: %v, want %v", x.held, seqs(l), x.want)
		}
		var want []api.Record
		for _, s := range x.want {
			want = append(want, numbered(s))
		}
		tells(t, r, want...)
	}
}

func TestRecordsAreNewMemory(t *testing.T) {
	r := open(t, of(t, 1, 2, 3))
	l := r.Records()
	l[2] = api.Record{}
	_ = append(l[:1], api.Record{Seq: 77})
	tells(t, r, numbered(1), numbered(2), numbered(3))
	m := r.Records()
	for i := range 9 {
		add(t, r, i, i, i)
	}
	if !slices.Equal(seqs(m), []int{1, 2, 3}) {
		t.Error("an answer changed behind an append:", m)
	}
}

// P22

func TestAppend(t *testing.T) {
	c := blank(t, all)
	r := open(t, c)
	var want []api.Record
	for i := range 3 * slots {
		x := add(t, r, i, 3, 1000*i)
		if x.Seq != i+1 {
			t.Fatalf("record %d has Seq %d", i+1, x.Seq)
		}
		want = append(want, x)
		last := want[max(0, len(want)-api.LogSize):]
		tells(t, r, last...)
		tells(t, open(t, c), last...)
	}
}

func TestAppendBehindWhatIsHeld(t *testing.T) {
	for _, x := range []struct {
		held []int
		want []int
	}{
		{[]int{5}, []int{5, 6}},
		{[]int{1, 2, 3, 5}, []int{5, 6}},
		{[]int{1, 2, 3, 4, 5, 6, 7, 8, 9}, []int{3, 4, 5, 6, 7, 8, 9, 10}},
		{[]int{maxSeq - 1}, []int{maxSeq - 1, maxSeq}},
		{nil, []int{1}},
	} {
		c := of(t, x.held...)
		r := open(t, c)
		add(t, r, 1, 2, 3)
		if l := seqs(r.Records()); !slices.Equal(l, x.want) {
			t.Errorf("behind %v: %v, want %v", x.held, l, x.want)
		}
		if l := seqs(open(t, c).Records()); !slices.Equal(l, x.want) {
			t.Errorf("behind %v, opened again: %v, want %v", x.held, l, x.want)
		}
	}
}

// steps are the bytes of the cells as an append writes them one by one.
func steps(before string, x api.Record) []string {
	at := (x.Seq - 1) % slots * api.Slot
	b, s := []byte(before), slot(x)
	out := []string{before}
	put := func(at int, v byte) {
		b[at] = v
		out = append(out, string(b))
	}
	if b[at+16] != 0 {
		put(at+16, 0)
	}
	for i := range 16 {
		put(at+i, s[i])
	}
	put(at+16, 165)
	return out
}

func TestAppendWritesByteByByte(t *testing.T) {
	blankCells := blank(t, all+2)
	odd := laid(t, map[int]string{0: slot(numbered(10)), 1: strings.Repeat("\x01", api.Slot)})
	for _, first := range []*cells.Cells{blankCells, of(t), of(t, 1, 2, 3), of(t, 1, 2, 3, 4, 5, 6, 7, 8, 9), odd} {
		last, _ := open(t, first).Last()
		want := steps(first.Bytes(), api.Record{Seq: last.Seq + 1, Entity: 9, Kind: 8, Tick: 1 << 40})
		for n, b := range want {
			c := first.Copy()
			r := open(t, c)
			c.Cut(n)
			x, err := r.Append(9, 8, 1<<40)
			done := n == len(want)-1
			if c.Bytes() != b || c.Written() != n || c.Power() != done {
				t.Errorf("cut %d: got %x, %d written, power %v; want %x", n, c.Bytes(), c.Written(), c.Power(), b)
			}
			if done && (err != nil || x.Seq != last.Seq+1) || !done && (err != api.ErrOff || x != api.Record{}) {
				t.Errorf("cut %d: %v, %v", n, x, err)
			}
		}
	}
}

func TestAppendBounds(t *testing.T) {
	c := of(t, 1, 2)
	r := open(t, c)
	before := c.Bytes()
	for _, x := range [][3]int{
		{-1, 0, 0}, {256, 0, 0}, {0, -1, 0}, {0, 256, 0}, {0, 0, -1}, {0, 0, maxTick + 1},
		{math.MinInt, 0, 0}, {math.MaxInt, 0, 0}, {0, math.MinInt, 0}, {0, math.MaxInt, 0}, {0, 0, math.MinInt}, {0, 0, math.MaxInt},
	} {
		refuses(t, r, x[0], x[1], x[2], api.ErrBound)
	}
	if c.Bytes() != before || c.Written() != 0 {
		t.Error("a number that does not fit was written")
	}
	tells(t, r, numbered(1), numbered(2))
	if x := add(t, r, 255, 255, maxTick); x.Seq != 3 {
		t.Error("behind errors:", x)
	}
	add(t, r, 0, 0, 0)
}

func TestAppendFull(t *testing.T) {
	c := of(t, maxSeq-2, maxSeq-1)
	r := open(t, c)
	if x := add(t, r, 1, 1, 1); x.Seq != maxSeq {
		t.Fatal(x)
	}
	before, written := c.Bytes(), c.Written()
	refuses(t, r, 1, 1, 1, api.ErrFull)
	refuses(t, r, 1, 1, maxTick+1, api.ErrBound)
	refuses(t, open(t, c), 1, 1, 1, api.ErrFull)
	if c.Bytes() != before || c.Written() != written {
		t.Error("a full ring was written")
	}
	c.Cut(0)
	c.Write(0, "x")
	refuses(t, r, 1, 256, 1, api.ErrBound)
	refuses(t, r, 1, 1, 1, api.ErrFull)
	if l := seqs(r.Records()); !slices.Equal(l, []int{maxSeq - 2, maxSeq - 1, maxSeq}) {
		t.Error(l)
	}
}

func TestAppendWithoutPower(t *testing.T) {
	c := of(t, 1, 2)
	r := open(t, c)
	c.Cut(0)
	c.Write(0, "x")
	before := c.Bytes()
	refuses(t, r, -1, 1, 1, api.ErrBound)
	c.On()
	if x := add(t, r, 1, 1, 1); x.Seq != 3 {
		t.Error("an error of a bound has spent the ring:", x)
	}
	c = of(t, 1, 2)
	r = open(t, c)
	c.Cut(0)
	c.Write(0, "x")
	refuses(t, r, 1, 1, 1, api.ErrOff)
	if c.Bytes() != before {
		t.Error("written without power")
	}
	c.On()
	spent(t, c, r, numbered(1), numbered(2))
}

// spent asks that a ring is of no more use, and that its cells are.
func spent(t *testing.T, c *cells.Cells, r *ring.Ring, want ...api.Record) {
	t.Helper()
	before, written := c.Bytes(), c.Written()
	refuses(t, r, 1, 1, 1, api.ErrOff)
	refuses(t, r, 0, 0, 0, api.ErrOff)
	refuses(t, r, 256, 1, 1, api.ErrOff)
	tells(t, r, want...)
	if c.Bytes() != before || c.Written() != written {
		t.Error("a spent ring was written")
	}
}

func TestSpentRing(t *testing.T) {
	for n := range 18 {
		c := of(t, 1, 2, 3, 4, 5, 6, 7, 8, 9)
		r := open(t, c)
		want := r.Records()
		c.Cut(n)
		refuses(t, r, 7, 7, 7, api.ErrOff)
		spent(t, c, r, want...)
		c.On()
		spent(t, c, r, want...)
		again := open(t, c)
		tells(t, again, want...)
		if x := add(t, again, 6, 6, 6); x.Seq != 10 {
			t.Error(x)
		}
		spent(t, c, r, want...)
	}
}

// P23

// TestCutAnywhere goes on with cells on which power was cut before, at each
// place of one append and of the next.
func TestCutAnywhere(t *testing.T) {
	for many := range 2*slots + 1 {
		for n := range 40 {
			for m := range 19 {
				cutTwice(t, many, n, m)
			}
		}
	}
}

func cutTwice(t *testing.T, many, n, m int) {
	t.Helper()
	c := blank(t, all)
	r := open(t, c)
	var done []api.Record
	for i := range many {
		done = append(done, add(t, r, 1, 2, i))
	}
	for _, cut := range []int{n, m} {
		c.Cut(cut)
		var flight api.Record // the one under which power failed
		for i := range 3 {
			x, err := r.Append(3+i, 4, 1000+cut)
			if err != nil {
				flight = api.Record{Seq: len(done) + 1, Entity: 3 + i, Kind: 4, Tick: 1000 + cut}
				break
			}
			done = append(done, x)
		}
		c.On()
		r = open(t, c)
		if x, _ := r.Last(); flight.Seq > 0 && x == flight {
			done = append(done, x)
		}
		last := done[max(0, len(done)-api.LogSize):]
		if !slices.Equal(r.Records(), last) {
			t.Fatalf("%d records, cuts %d, %d: %v, want %v", many, n, m, r.Records(), last)
		}
	}
}
