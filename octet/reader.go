package octet

import (
	"math"

	"lamella/api"
)

// Reader takes bytes from the front. It keeps what is left; a bad one keeps nothing.
type Reader struct {
	b   []byte
	bad bool
}

// NewReader: P1.3. The bytes are copied: they are the caller's, who may change them meanwhile.
func NewReader(b []byte) *Reader {
	return &Reader{b: append([]byte(nil), b...)}
}

func (r *Reader) spoil() {
	if r != nil {
		r.b, r.bad = nil, true
	}
}

// Byte: P1.3.
func (r *Reader) Byte() byte {
	if r.Left() == 0 {
		r.spoil()
		return 0
	}
	c := r.b[0]
	r.b = r.b[1:]
	return c
}

// Num: P1.3. A reader that becomes bad on the way tells a byte of 0, which ends the loop.
func (r *Reader) Num() uint64 {
	c := r.Byte()
	if c == moreMark {
		r.spoil()
		return 0
	}
	n := uint64(c & groupMask)
	for c >= moreMark {
		if n > math.MaxUint64>>groupBits {
			r.spoil()
			return 0
		}
		c = r.Byte()
		n = n<<groupBits | uint64(c&groupMask)
	}
	if r.Bad() {
		return 0
	}
	return n
}

// Int: P1.3.
func (r *Reader) Int() int64 {
	sign := r.Byte()
	n := r.Num()
	if sign > 1 || n > math.MaxInt64 {
		r.spoil()
	}
	if r.Bad() {
		return 0
	}
	if sign == 1 {
		return -1 - int64(n)
	}
	return int64(n)
}

// Bool: P1.3.
func (r *Reader) Bool() bool {
	c := r.Byte()
	if c > 1 {
		r.spoil()
		return false
	}
	return c == 1
}

// length takes how many things follow. It is held against most and against what is left ahead of all use, so that a false number makes nobody ask for room that nothing fills.
func (r *Reader) length(most uint64) int {
	n := r.Num()
	if n > most || n > uint64(r.Left()) {
		r.spoil()
		return 0
	}
	return int(n)
}

// Text: P1.3.
func (r *Reader) Text() string {
	n := r.length(api.MaxText)
	if r.Bad() {
		return ""
	}
	s := string(r.b[:n])
	r.b = r.b[n:]
	return s
}

// Left: P1.3.
func (r *Reader) Left() int {
	if r == nil {
		return 0
	}
	return len(r.b)
}

// Bad: P1.3.
func (r *Reader) Bad() bool { return r == nil || r.bad }

// End: P1.3.
func (r *Reader) End() bool { return !r.Bad() && r.Left() == 0 }

// Get: P1.3. Elements that there is no each for can't be taken: the reader is bad then.
func Get[T any](r *Reader, each func(*Reader) T) []T {
	n := r.length(api.MaxList)
	if n > 0 && each == nil {
		r.spoil()
	}
	if r.Bad() {
		return nil
	}
	l := make([]T, 0, n)
	for range n {
		l = append(l, each(r))
		if r.Bad() {
			return nil
		}
	}
	return l
}
