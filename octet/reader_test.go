package octet_test

import (
	"bytes"
	"math"
	"slices"
	"strings"
	"testing"

	"lamella/api"
	"lamella/octet"
)

// reads checks a call that may be, with bytes behind it that it must leave.
func reads[T comparable](t *testing.T, what string, call func(*octet.Reader) T, b []byte, want T) {
	t.Helper()
	r := octet.NewReader(b)
	if got := call(r); got != want || r.Bad() || !r.End() || r.Left() != 0 {
		t.Errorf("%s of % x: %v, bad %v, left %d", what, clip(b), got, r.Bad(), r.Left())
	}
	r = octet.NewReader(append(slices.Clone(b), 0x80, 0x81))
	if got := call(r); got != want || r.Bad() || r.End() || r.Left() != 2 || r.Byte() != 0x80 {
		t.Errorf("%s of % x and more: %v, bad %v, left %d", what, clip(b), got, r.Bad(), r.Left())
	}
}

// refuses checks a call that makes the reader bad.
func refuses[T comparable](t *testing.T, what string, call func(*octet.Reader) T, b []byte) {
	t.Helper()
	var zero T
	r := octet.NewReader(b)
	if got := call(r); got != zero {
		t.Errorf("%s of % x: %v", what, clip(b), got)
	}
	isBad(t, what, r)
}

func clip(b []byte) []byte { return b[:min(len(b), 16)] }

// P1.3
func TestByteIsRead(t *testing.T) {
	for c := range 256 {
		reads(t, "Byte", (*octet.Reader).Byte, []byte{byte(c)}, byte(c))
	}
	refuses(t, "Byte", (*octet.Reader).Byte, nil)
}

// P1.3
func TestNumIsRead(t *testing.T) {
	for s, want := range map[string]uint64{
		"00":                            0,
		"01":                            1,
		"7f":                            127,
		"81 00":                         128,
		"82 2c":                         300,
		"81 80 00":                      1 << 14,
		"ff ff ff ff ff ff ff ff 7f":    1<<63 - 1,
		"81 80 80 80 80 80 80 80 80 00": 1 << 63,
		"81 ff ff ff ff ff ff ff ff 7f": math.MaxUint64,
	} {
		reads(t, "Num", (*octet.Reader).Num, unhex(t, s), want)
	}
	for _, s := range []string{
		"", "81", "ff", "81 80", "81 ff ff ff ff ff ff ff ff",
		"80", "80 00", "80 01", "80 80 00", "80 ff ff ff ff ff ff ff ff 7f",
		"82 80 80 80 80 80 80 80 80 00",
		"83 ff ff ff ff ff ff ff ff 7f",
		"c0 80 80 80 80 80 80 80 80 00",
		"ff ff ff ff ff ff ff ff ff 7f",
		"81 80 80 80 80 80 80 80 80 80 00",
		"81 ff ff ff ff ff ff ff ff ff 7f",
		"81 80 80 80 80 80 80 80 80 80 80 80 80 80 80 80 80 80 80 05",
	} {
		refuses(t, "Num", (*octet.Reader).Num, unhex(t, s))
	}
}

// P1.3
func TestIntIsRead(t *testing.T) {
	for s, want := range map[string]int64{
		"00 00":                         0,
		"00 01":                         1,
		"00 82 2c":                      300,
		"01 00":                         -1,
		"01 01":                         -2,
		"01 82 2c":                      -301,
		"00 ff ff ff ff ff ff ff ff 7f": math.MaxInt64,
		"01 ff ff ff ff ff ff ff ff 7f": math.MinInt64,
	} {
		reads(t, "Int", (*octet.Reader).Int, unhex(t, s), want)
	}
	for _, s := range []string{
		"", "00", "01", "02", "02 00", "03 05", "80 00", "ff 01",
		"00 81", "01 81", "00 80 00", "01 80 01",
		"00 81 80 80 80 80 80 80 80 80 00", "01 81 80 80 80 80 80 80 80 80 00",
		"00 81 ff ff ff ff ff ff ff ff 7f", "01 81 ff ff ff ff ff ff ff ff 7f",
		"00 82 80 80 80 80 80 80 80 80 00",
	} {
		refuses(t, "Int", (*octet.Reader).Int, unhex(t, s))
	}
}

// P1.3
func TestBoolIsRead(t *testing.T) {
	reads(t, "Bool", (*octet.Reader).Bool, []byte{0}, false)
	reads(t, "Bool", (*octet.Reader).Bool, []byte{1}, true)
	refuses(t, "Bool", (*octet.Reader).Bool, nil)
	for c := 2; c < 256; c++ {
		refuses(t, "Bool", (*octet.Reader).Bool, []byte{byte(c), 1})
	}
}

// P1.3
func TestTextIsRead(t *testing.T) {
	for _, s := range []string{"", "a", "ab", "\x00\xff\xc3", strings.Repeat("x", 300), strings.Repeat("m", api.MaxText)} {
		reads(t, "Text", (*octet.Reader).Text, written(func(w *octet.Writer) { w.Text(s) }), s)
	}
	for _, s := range []string{
		"", "01", "03 61 62", "80 00", "80 02 61 62", "81", "81 00 61",
		"81 ff ff ff ff ff ff ff ff 7f 61", "82 80 80 80 80 80 80 80 80 00 61",
	} {
		refuses(t, "Text", (*octet.Reader).Text, unhex(t, s))
	}
	long := written(func(w *octet.Writer) { w.Text(strings.Repeat("m", api.MaxText+1)) })
	refuses(t, "a text above MaxText", (*octet.Reader).Text, long)
	short := written(func(w *octet.Writer) { w.Text(strings.Repeat("m", api.MaxText)) })
	refuses(t, "a text of MaxText, all but a byte", (*octet.Reader).Text, short[:len(short)-1])
}

// P1.3
func TestListIsRead(t *testing.T) {
	for _, n := range []int{0, 1, 3, 200, api.MaxList} {
		l := make([]byte, n)
		for i := range l {
			l[i] = byte(i * i)
		}
		r := octet.NewReader(append(written(func(w *octet.Writer) { octet.Put(w, l, (*octet.Writer).Byte) }), 77))
		got := octet.Get(r, (*octet.Reader).Byte)
		if !bytes.Equal(got, l) || r.Bad() || r.Left() != 1 || r.Byte() != 77 || !r.End() {
			t.Errorf("a list of %d: %d, bad %v, left %d", n, len(got), r.Bad(), r.Left())
		}
	}
}

// P1.3
func TestListIsRefused(t *testing.T) {
	long := written(func(w *octet.Writer) { octet.Put(w, make([]byte, api.MaxList+1), (*octet.Writer).Byte) })
	for what, b := range map[string][]byte{
		"nothing":                   nil,
		"a list above MaxList":      long,
		"that with more behind":     append(slices.Clone(long), 1, 2, 3),
		"a list without elements":   {2},
		"a list above what is left": {3, 1, 2},
		"a first group of 0":        {0x80, 1, 5},
		"a number cut off":          {0x81},
		"a number of 64 bits":       unhex(t, "81 ff ff ff ff ff ff ff ff 7f 01 02"),
		"a number of more":          unhex(t, "82 80 80 80 80 80 80 80 80 00 01 02"),
	} {
		called := 0
		r := octet.NewReader(b)
		l := octet.Get(r, func(r *octet.Reader) byte { called++; return r.Byte() })
		if len(l) != 0 || called != 0 {
			t.Errorf("%s: %v, each was called %d times", what, l, called)
		}
		isBad(t, what, r)
	}
}

// P1.3: more than there are bytes is bad, even where an element takes none.
func TestListOfElementsWithoutBytes(t *testing.T) {
	none := func(*octet.Reader) int { return 7 }
	r := octet.NewReader([]byte{2, 9})
	if l := octet.Get(r, none); len(l) != 0 {
		t.Error(l)
	}
	isBad(t, "a list of two with one byte left", r)
	r = octet.NewReader([]byte{2, 9, 9})
	if l := octet.Get(r, none); !slices.Equal(l, []int{7, 7}) || r.Left() != 2 {
		t.Error(l, r.Left())
	}
}

// P1.3: where a list becomes bad on the way there is none.
func TestListBecomesBadOnTheWay(t *testing.T) {
	for what, b := range map[string][]byte{
		"the first": {3, 2, 0, 1},
		"the midst": {3, 1, 5, 1},
		"the last":  {3, 1, 0, 2, 1, 1},
	} {
		r := octet.NewReader(b)
		if l := octet.Get(r, (*octet.Reader).Bool); len(l) != 0 {
			t.Errorf("%s: %v", what, l)
		}
		isBad(t, what, r)
	}
	r := octet.NewReader([]byte{2, 1, 'a', 4, 'b'})
	if l := octet.Get(r, (*octet.Reader).Text); len(l) != 0 {
		t.Error(l)
	}
	isBad(t, "a text too long in a list", r)
	r = octet.NewReader([]byte{2, 1, 9, 2, 9})
	l := octet.Get(r, func(r *octet.Reader) []byte { return octet.Get(r, (*octet.Reader).Byte) })
	if len(l) != 0 {
		t.Error(l)
	}
	isBad(t, "a list too long in a list", r)
}

// P1.3: Left and End as bytes are taken.
func TestLeft(t *testing.T) {
	r := octet.NewReader([]byte{1, 0x82, 0x2c, 1, 'x'})
	left := []int{r.Left()}
	r.Byte()
	left = append(left, r.Left())
	r.Num()
	left = append(left, r.Left())
	if r.End() {
		t.Error("an end ahead of it")
	}
	r.Text()
	left = append(left, r.Left())
	if !slices.Equal(left, []int{5, 4, 2, 0}) || !r.End() || r.Bad() {
		t.Error(left, r.End(), r.Bad())
	}
	r.Byte()
	isBad(t, "beyond the end", r)
}

// P1.3: nothing that stood behind the fault is taken.
func TestBadStaysBad(t *testing.T) {
	r := octet.NewReader([]byte{5, 0, 1, 1, 1, 'a', 1, 1})
	if r.Bool() {
		t.Error("5 is no Bool")
	}
	isBad(t, "a reader with bytes behind the fault", r)
}

// P1.3: of a nil Reader.
func TestNilReader(t *testing.T) {
	var r *octet.Reader
	isBad(t, "nil", r)
	called := 0
	if l := octet.Get(r, func(*octet.Reader) int { called++; return 1 }); len(l) != 0 || called != 0 {
		t.Error(l, called)
	}
}

// P1.3: a reader of nothing is at its end, and not bad.
func TestReaderOfNothing(t *testing.T) {
	for _, b := range [][]byte{nil, {}} {
		r := octet.NewReader(b)
		if r.Bad() || !r.End() || r.Left() != 0 {
			t.Error(r.Bad(), r.End(), r.Left())
		}
	}
}

// Rule 4: what is handed in is neither changed nor kept.
func TestReaderKeepsNothingOfTheCaller(t *testing.T) {
	room := []byte{2, 'a', 'b', 2, 7, 8, 99, 99}
	b := room[:6]
	r := octet.NewReader(b)
	clear(room)
	if s := r.Text(); s != "ab" {
		t.Errorf("%q", s)
	}
	if l := octet.Get(r, (*octet.Reader).Byte); !bytes.Equal(l, []byte{7, 8}) {
		t.Errorf("% x", l)
	}
	sameBytes(t, "the room", room, make([]byte, 8))
}

// No call panics, whatever it is given.
func TestGetWithoutEach(t *testing.T) {
	r := octet.NewReader([]byte{1, 5})
	if l := octet.Get[int](r, nil); len(l) != 0 {
		t.Error(l)
	}
	isBad(t, "no each", r)
	r = octet.NewReader([]byte{0, 5})
	if l := octet.Get[int](r, nil); len(l) != 0 || r.Bad() || r.Left() != 1 {
		t.Error(l, r.Bad(), r.Left())
	}
}
