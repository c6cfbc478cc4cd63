package cells_test

import (
	"math"
	"strings"
	"testing"

	"nightwatch/api"
	"nightwatch/cells"
)

func from(t *testing.T, b string) *cells.Cells {
	t.Helper()
	c, err := cells.From(b)
	if err != nil || c == nil {
		t.Fatalf("From(%q): %v", b, err)
	}
	return c
}

// dark is cells whose power has failed.
func dark(t *testing.T, b string) *cells.Cells {
	t.Helper()
	c := from(t, b)
	if err := c.Cut(0); err != nil {
		t.Fatal(err)
	}
	if err := c.Write(0, "x"); err != api.ErrOff {
		t.Fatalf("write at a cut of 0: %v", err)
	}
	return c
}

func holds(t *testing.T, c *cells.Cells, bytes string, written int, power bool) {
	t.Helper()
	if c.Bytes() != bytes || c.Written() != written || c.Power() != power {
		t.Errorf("got %q, %d written, power %v; want %q, %d, %v", c.Bytes(), c.Written(), c.Power(), bytes, written, power)
	}
}

// The errors of this package are bare: == and not errors.Is.
func fails(t *testing.T, err, want error) {
	t.Helper()
	if err != want {
		t.Errorf("got error %v, want %v", err, want)
	}
}

// P10

func TestNewIsAllZeroWithPower(t *testing.T) {
	for _, size := range []int{0, 1, 153, api.MaxBytes - 1, api.MaxBytes} {
		c, err := cells.New(size)
		if err != nil || c == nil {
			t.Fatalf("New(%d): %v", size, err)
		}
		holds(t, c, strings.Repeat("\x00", size), 0, true)
	}
}

func TestNewBound(t *testing.T) {
	for _, size := range []int{-1, api.MaxBytes + 1, math.MinInt, math.MaxInt} {
		c, err := cells.New(size)
		fails(t, err, api.ErrBound)
		if c != nil {
			t.Errorf("New(%d) answers cells with its error", size)
		}
	}
}

func TestFromHasThoseBytes(t *testing.T) {
	for _, b := range []string{"", "a", "\x00\xff\x80\xc3(\n", "ä", strings.Repeat("\xfe", api.MaxBytes)} {
		holds(t, from(t, b), b, 0, true)
	}
}

func TestFromBound(t *testing.T) {
	c, err := cells.From(strings.Repeat("a", api.MaxBytes+1))
	fails(t, err, api.ErrBound)
	if c != nil {
		t.Error("From answers cells with its error")
	}
}

func TestRead(t *testing.T) {
	c := from(t, "abc\xff\x00f")
	for _, x := range []struct {
		at, n int
		want  string
	}{{0, 6, "abc\xff\x00f"}, {0, 0, ""}, {6, 0, ""}, {3, 0, ""}, {0, 1, "a"}, {5, 1, "f"}, {2, 3, "c\xff\x00"}} {
		s, err := c.Read(x.at, x.n)
		if s != x.want || err != nil {
			t.Errorf("Read(%d, %d): %q, %v; want %q", x.at, x.n, s, err, x.want)
		}
	}
	holds(t, c, "abc\xff\x00f", 0, true)
}

func TestReadErrors(t *testing.T) {
	on, off := from(t, "abcdef"), dark(t, "abcdef")
	for _, x := range []struct{ at, n int }{
		{-1, 0}, {-1, 1}, {0, -1}, {3, -1}, {7, 0}, {7, -1}, {6, 1}, {5, 2}, {0, 7},
		{math.MaxInt, 0}, {math.MaxInt, 1}, {1, math.MaxInt}, {math.MaxInt, math.MaxInt},
		{math.MinInt, 1}, {0, math.MinInt}, {math.MinInt, math.MinInt}, {math.MinInt, math.MaxInt}, {math.MaxInt, math.MinInt},
	} {
		for _, c := range []*cells.Cells{on, off} {
			s, err := c.Read(x.at, x.n)
			if s != "" || err != api.ErrBound {
				t.Errorf("Read(%d, %d), power %v: %q, %v", x.at, x.n, c.Power(), s, err)
			}
		}
	}
	for _, x := range []struct{ at, n int }{{0, 6}, {0, 0}, {6, 0}, {2, 1}} {
		s, err := off.Read(x.at, x.n)
		if s != "" || err != api.ErrOff {
			t.Errorf("Read(%d, %d) without power: %q, %v", x.at, x.n, s, err)
		}
	}
}

func TestWrite(t *testing.T) {
	c := from(t, "abcdef")
	for _, x := range []struct {
		at      int
		b, want string
		written int
	}{
		{0, "", "abcdef", 0}, {6, "", "abcdef", 0}, {5, "\xff", "abcde\xff", 1}, {0, "\x00y", "\x00ycde\xff", 3},
		{0, "\x00y", "\x00ycde\xff", 5}, {0, "123456", "123456", 11},
	} {
		fails(t, c.Write(x.at, x.b), nil)
		holds(t, c, x.want, x.written, true)
	}
}

func TestWriteAllThereIs(t *testing.T) {
	c, err := cells.New(api.MaxBytes)
	if err != nil {
		t.Fatal(err)
	}
	b := strings.Repeat("night", api.MaxBytes)[:api.MaxBytes]
	fails(t, c.Write(0, b), nil)
	fails(t, c.Write(api.MaxBytes-1, "!"), nil)
	fails(t, c.Write(api.MaxBytes, "!"), api.ErrBound)
	holds(t, c, b[:api.MaxBytes-1]+"!", api.MaxBytes+1, true)
}

func TestWriteErrors(t *testing.T) {
	on, off := from(t, "abcdef"), dark(t, "abcdef")
	for _, x := range []struct {
		at int
		b  string
	}{
		{-1, ""}, {-1, "q"}, {7, ""}, {6, "q"}, {5, "qr"}, {0, "1234567"},
		{math.MaxInt, ""}, {math.MaxInt, "q"}, {math.MaxInt - 1, "qrs"}, {math.MinInt, ""}, {math.MinInt, "q"},
	} {
		fails(t, on.Write(x.at, x.b), api.ErrBound)
		fails(t, off.Write(x.at, x.b), api.ErrBound)
	}
	for _, x := range []struct {
		at int
		b  string
	}{{0, ""}, {6, ""}, {0, "q"}, {0, "123456"}} {
		fails(t, off.Write(x.at, x.b), api.ErrOff)
	}
	holds(t, on, "abcdef", 0, true)
	holds(t, off, "abcdef", 0, false)
}

func TestNoBytesAtAll(t *testing.T) {
	c := from(t, "")
	s, err := c.Read(0, 0)
	if s != "" || err != nil {
		t.Errorf("Read of nothing: %q, %v", s, err)
	}
	fails(t, c.Write(0, ""), nil)
	fails(t, c.Write(0, "a"), api.ErrBound)
	fails(t, c.Cut(0), nil)
	fails(t, c.Write(0, "a"), api.ErrBound)
	holds(t, c, "", 0, true)
}

// P11

func TestCutAheadOfTheNextByte(t *testing.T) {
	c := from(t, "abc")
	fails(t, c.Cut(0), nil)
	holds(t, c, "abc", 0, true)
	fails(t, c.Write(1, ""), nil)
	if s, err := c.Read(0, 3); s != "abc" || err != nil {
		t.Errorf("read ahead of the write that fails: %q, %v", s, err)
	}
	holds(t, c, "abc", 0, true)
	fails(t, c.Write(1, "x"), api.ErrOff)
	holds(t, c, "abc", 0, false)
}

func TestCutInsideAWrite(t *testing.T) {
	c := from(t, "abcdef")
	fails(t, c.Cut(2), nil)
	fails(t, c.Write(1, "1234"), api.ErrOff)
	holds(t, c, "a12def", 2, false)
}

func TestCutBehindJustAsMany(t *testing.T) {
	c := from(t, "abcdef")
	fails(t, c.Cut(3), nil)
	fails(t, c.Write(0, "12"), nil)
	fails(t, c.Write(5, "3"), nil)
	holds(t, c, "12cde3", 3, true)
	fails(t, c.Write(6, ""), nil)
	holds(t, c, "12cde3", 3, true)
	fails(t, c.Write(3, "4"), api.ErrOff)
	holds(t, c, "12cde3", 3, false)
	fails(t, c.Write(6, ""), api.ErrOff)
}

func TestCutErrors(t *testing.T) {
	c := from(t, "abc")
	fails(t, c.Cut(1), nil)
	fails(t, c.Cut(-1), api.ErrBound)
	fails(t, c.Cut(math.MinInt), api.ErrBound)
	fails(t, c.Write(0, "12"), api.ErrOff)
	holds(t, c, "1bc", 1, false)
	fails(t, c.Cut(-1), api.ErrBound)
	fails(t, c.Cut(0), api.ErrOff)
	fails(t, c.Cut(math.MaxInt), api.ErrOff)
	c.On()
	fails(t, c.Write(0, "123"), nil)
	holds(t, c, "123", 4, true)
}

func TestSecondCutTakesThePlaceOfTheFirst(t *testing.T) {
	for _, x := range []struct {
		first, second int
		want          string
	}{{1, 3, "123def"}, {5, 3, "123def"}, {3, 0, "abcdef"}, {0, 3, "123def"}} {
		c := from(t, "abcdef")
		fails(t, c.Cut(x.first), nil)
		fails(t, c.Cut(x.second), nil)
		fails(t, c.Write(0, "123456"), api.ErrOff)
		holds(t, c, x.want, x.second, false)
	}
	c := from(t, "abcdef")
	fails(t, c.Cut(2), nil)
	fails(t, c.Write(0, "12"), nil)
	fails(t, c.Cut(2), nil)
	fails(t, c.Write(2, "345"), api.ErrOff)
	holds(t, c, "1234ef", 4, false)
}

func TestCutFarAhead(t *testing.T) {
	c := from(t, "abc")
	fails(t, c.Cut(math.MaxInt), nil)
	for range 10 {
		fails(t, c.Write(0, "xyz"), nil)
	}
	holds(t, c, "xyz", 30, true)
}

func TestWrongWriteLeavesTheCut(t *testing.T) {
	c := from(t, "abc")
	fails(t, c.Cut(1), nil)
	fails(t, c.Write(2, "12"), api.ErrBound)
	holds(t, c, "abc", 0, true)
	fails(t, c.Write(2, "1"), nil)
	fails(t, c.Write(2, "12"), api.ErrBound)
	holds(t, c, "ab1", 1, true)
	fails(t, c.Write(1, "2"), api.ErrOff)
	holds(t, c, "ab1", 1, false)
}

func TestOn(t *testing.T) {
	c := dark(t, "abc")
	c.On()
	holds(t, c, "abc", 0, true)
	if s, err := c.Read(0, 3); s != "abc" || err != nil {
		t.Errorf("read behind On: %q, %v", s, err)
	}
	fails(t, c.Write(0, "123"), nil)
	fails(t, c.Cut(1), nil)
	c.On()
	fails(t, c.Write(0, "456"), nil)
	c.On()
	holds(t, c, "456", 6, true)
}

func TestCopyHasAllOfIt(t *testing.T) {
	c := from(t, "abcdef")
	fails(t, c.Write(0, "1"), nil)
	fails(t, c.Cut(3), nil)
	fails(t, c.Write(1, "2"), nil)
	y := c.Copy()
	holds(t, y, "12cdef", 2, true)
	fails(t, y.Write(2, "345"), api.ErrOff)
	holds(t, y, "1234ef", 4, false)
	z := y.Copy()
	holds(t, z, "1234ef", 4, false)
	fails(t, z.Write(0, "x"), api.ErrOff)
	z.On()
	fails(t, z.Write(0, "abcdef"), nil)
	holds(t, z, "abcdef", 10, true)
	holds(t, y, "1234ef", 4, false)
	holds(t, c, "12cdef", 2, true)
}

func TestCopyAndItsOriginShareNothing(t *testing.T) {
	c := from(t, "abc")
	y := c.Copy()
	fails(t, c.Write(0, "1"), nil)
	fails(t, y.Write(2, "2"), nil)
	holds(t, c, "1bc", 1, true)
	holds(t, y, "ab2", 1, true)
	fails(t, c.Cut(0), nil)
	fails(t, y.Write(0, "3"), nil)
	holds(t, y, "3b2", 2, true)
	fails(t, c.Write(0, "4"), api.ErrOff)
	y.On()
	holds(t, c, "1bc", 1, false)
}

func TestWhatWasToldStays(t *testing.T) {
	c := from(t, "abc")
	all := c.Bytes()
	some, err := c.Read(0, 2)
	fails(t, err, nil)
	fails(t, c.Write(0, "xyz"), nil)
	if all != "abc" || some != "ab" {
		t.Errorf("what was told changed: %q, %q", all, some)
	}
}

// P12

type write struct {
	at int
	b  string
}

// bytewise is what the writes leave if only the first n bytes of them are written.
func bytewise(start string, writes []write, n int) string {
	b := []byte(start)
	for _, w := range writes {
		for i := 0; i < len(w.b) && n > 0; i++ {
			b[w.at+i] = w.b[i]
			n--
		}
	}
	return string(b)
}

func TestWhereverPowerIsCut(t *testing.T) {
	const start = "abcdefgh"
	writes := []write{{0, "12"}, {1, "345"}, {8, ""}, {7, "6"}, {0, "78901234"}, {3, ""}, {2, "xyz"}}
	total := 0
	for _, w := range writes {
		total += len(w.b)
	}
	for n := range total + 2 {
		c := from(t, start)
		fails(t, c.Cut(n), nil)
		done := 0
		for _, w := range writes {
			done += len(w.b)
			want := error(nil)
			if done > n {
				want = api.ErrOff
			}
			fails(t, c.Write(w.at, w.b), want)
			holds(t, c, bytewise(start, writes, min(n, done)), min(n, done), done <= n)
		}
		c.On()
		holds(t, c, bytewise(start, writes, n), min(n, total), true)
	}
}
