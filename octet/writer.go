package octet

// A Num is laid in groups of seven bits, a byte each.
const (
	groupBits = 7
	groupMask = 1<<groupBits - 1
	moreMark  = 1 << groupBits // added to each group that another one follows
	mostBytes = 10             // that a number of 64 bits needs
)

// Writer lays bytes; a zero one has nothing, and may be used.
type Writer struct {
	b []byte
}

// lay is the one place that writes, so that it alone must bear a nil Writer.
func (w *Writer) lay(b ...byte) {
	if w != nil {
		w.b = append(w.b, b...)
	}
}

// Byte: P1.2.
func (w *Writer) Byte(c byte) { w.lay(c) }

// Num: P1.2. The lowest group is found first and stands last, so they are laid from the back on.
func (w *Writer) Num(n uint64) {
	var groups [mostBytes]byte
	at := mostBytes - 1
	groups[at] = byte(n & groupMask)
	for n >>= groupBits; n > 0; n >>= groupBits {
		at--
		groups[at] = byte(n&groupMask | moreMark)
	}
	w.lay(groups[at:]...)
}

// Int: P1.2. -1 - n is never too great, as -n would be of the least number.
func (w *Writer) Int(n int64) {
	if n >= 0 {
		w.Byte(0)
		w.Num(uint64(n))
		return
	}
	w.Byte(1)
	w.Num(uint64(-1 - n))
}

// Bool: P1.2.
func (w *Writer) Bool(b bool) {
	if b {
		w.Byte(1)
		return
	}
	w.Byte(0)
}

// Text: P1.2.
func (w *Writer) Text(s string) {
	w.Num(uint64(len(s)))
	w.lay([]byte(s)...)
}

// Bytes: P1.2.
func (w *Writer) Bytes() []byte {
	if w == nil {
		return nil
	}
	return append([]byte(nil), w.b...)
}

// Put: P1.2. Without each the elements lay nothing.
func Put[T any](w *Writer, l []T, each func(*Writer, T)) {
	w.Num(uint64(len(l)))
	if w == nil || each == nil {
		return
	}
	for _, x := range l {
		each(w, x)
	}
}
