// Package cells: bytes that stay: see ../shared/doc/01-cells.md.
package cells

import "nightwatch/api"

// Cells of bytes. They stand in an array and not in a slice, so that a copy of
// the struct is a copy of the bytes. The zero value is no bytes, with power.
type Cells struct {
	bytes   [api.MaxBytes]byte
	size    int
	written int
	off     bool
	cut     bool // a cut is ahead
	left    int  // bytes that may still be written ahead of the cut
}

// New cells.
func New(size int) (*Cells, error) {
	if size < 0 || size > api.MaxBytes {
		return nil, api.ErrBound
	}
	return &Cells{size: size}, nil
}

// From bytes.
func From(b string) (*Cells, error) {
	c, err := New(len(b))
	if err != nil {
		return nil, err
	}
	copy(c.bytes[:], b)
	return c, nil
}

// Read bytes.
func (c *Cells) Read(at, n int) (string, error) {
	if err := c.check(at, n); err != nil {
		return "", err
	}
	return string(c.bytes[at : at+n]), nil
}

// Write bytes, one by one.
func (c *Cells) Write(at int, b string) error {
	if err := c.check(at, len(b)); err != nil {
		return err
	}
	for i := range len(b) {
		if err := c.put(at+i, b[i]); err != nil {
			return err
		}
	}
	return nil
}

// Cut the power, some bytes later.
func (c *Cells) Cut(n int) error {
	if n < 0 {
		return api.ErrBound
	}
	if c.off {
		return api.ErrOff
	}
	c.cut, c.left = true, n
	return nil
}

// On again.
func (c *Cells) On() {
	c.off, c.cut, c.left = false, false, 0
}

// Power is there?
func (c *Cells) Power() bool { return !c.off }

// Written bytes.
func (c *Cells) Written() int { return c.written }

// Bytes there are.
func (c *Cells) Bytes() string { return string(c.bytes[:c.size]) }

// Copy of cells.
func (c *Cells) Copy() *Cells {
	d := *c
	return &d
}

// check asks for the bytes ahead of the power, as the errors are named. The sum
// at + n is not built: it could wrap round.
func (c *Cells) check(at, n int) error {
	if at < 0 || n < 0 || n > c.size-at {
		return api.ErrBound
	}
	if c.off {
		return api.ErrOff
	}
	return nil
}

// put writes one byte. Power fails here and not when the last byte ahead of the
// cut is written, since a write that has just as many is done.
func (c *Cells) put(at int, v byte) error {
	if c.cut && c.left == 0 {
		c.off = true
		return api.ErrOff
	}
	if c.cut {
		c.left--
	}
	c.bytes[at] = v
	c.written++
	return nil
}
