package octet_test

import (
	"bytes"
	"math"
	"math/bits"
	"strings"
	"testing"

	"lamella/api"
	"lamella/octet"
)

// P1.2
func TestWhatIsWritten(t *testing.T) {
	num := func(n uint64) func(*octet.Writer) { return func(w *octet.Writer) { w.Num(n) } }
	int_ := func(n int64) func(*octet.Writer) { return func(w *octet.Writer) { w.Int(n) } }
	text := func(s string) func(*octet.Writer) { return func(w *octet.Writer) { w.Text(s) } }
	put := func(l ...byte) func(*octet.Writer) {
		return func(w *octet.Writer) { octet.Put(w, l, (*octet.Writer).Byte) }
	}
	for _, c := range []struct {
		what string
		call func(*octet.Writer)
		want string
	}{
		{"nothing", func(*octet.Writer) {}, ""},
		{"Byte(0)", func(w *octet.Writer) { w.Byte(0) }, "00"},
		{"Byte(200)", func(w *octet.Writer) { w.Byte(200) }, "c8"},
		{"Num(0)", num(0), "00"},
		{"Num(1)", num(1), "01"},
		{"Num(127)", num(127), "7f"},
		{"Num(128)", num(128), "81 00"},
		{"Num(300)", num(300), "82 2c"},
		{"Num(16383)", num(16383), "ff 7f"},
		{"Num(16384)", num(16384), "81 80 00"},
		{"Num(2^63 - 1)", num(1<<63 - 1), "ff ff ff ff ff ff ff ff 7f"},
		{"Num(2^63)", num(1 << 63), "81 80 80 80 80 80 80 80 80 00"},
		{"Num(2^64 - 1)", num(math.MaxUint64), "81 ff ff ff ff ff ff ff ff 7f"},
		{"Int(0)", int_(0), "00 00"},
		{"Int(1)", int_(1), "00 01"},
		{"Int(300)", int_(300), "00 82 2c"},
		{"Int(-1)", int_(-1), "01 00"},
		{"Int(-2)", int_(-2), "01 01"},
		{"Int(-129)", int_(-129), "01 81 00"},
		{"Int(2^63 - 1)", int_(math.MaxInt64), "00 ff ff ff ff ff ff ff ff 7f"},
		{"Int(-2^63)", int_(math.MinInt64), "01 ff ff ff ff ff ff ff ff 7f"},
		{"Bool(true)", func(w *octet.Writer) { w.Bool(true) }, "01"},
		{"Bool(false)", func(w *octet.Writer) { w.Bool(false) }, "00"},
		{"Text()", text(""), "00"},
		{"Text(ab)", text("ab"), "02 61 62"},
		{"Text of any bytes", text("\x00\xff\xc3"), "03 00 ff c3"},
		{"Text of 128 bytes", text(strings.Repeat("a", 128)), "81 00" + strings.Repeat("61", 128)},
		{"Put()", put(), "00"},
		{"Put(7, 5, 6)", put(7, 5, 6), "03 07 05 06"},
	} {
		sameBytes(t, c.what, written(c.call), unhex(t, c.want))
	}
}

// P1.2
func TestNumHasAsFewBytesAsCanBe(t *testing.T) {
	for i := range 64 {
		for _, n := range []uint64{1<<i - 1, 1 << i, 1<<i + 1} {
			b := written(func(w *octet.Writer) { w.Num(n) })
			if want := max(1, (bits.Len64(n)+6)/7); len(b) != want {
				t.Errorf("Num(%d) has %d bytes, want %d", n, len(b), want)
			}
			var back uint64
			for j, c := range b {
				if more := j < len(b)-1; (c >= 128) != more {
					t.Errorf("Num(%d): % x", n, b)
				}
				back = back*128 + uint64(c%128)
			}
			if back != n {
				t.Errorf("Num(%d): % x", n, b)
			}
		}
	}
}

// P1.2: one call behind another, lists in lists.
func TestWrittenInOrder(t *testing.T) {
	got := written(func(w *octet.Writer) {
		w.Byte(9)
		w.Text("x")
		octet.Put(w, [][]int64{{1, -1}, {}, {2}}, func(w *octet.Writer, l []int64) {
			octet.Put(w, l, (*octet.Writer).Int)
		})
		w.Bool(true)
	})
	sameBytes(t, "all", got, unhex(t, "09 01 78 03 02 00 01 01 00 00 01 00 02 01"))
}

// P1.2: a Writer refuses nothing, however long.
func TestWrittenBeyondTheLimits(t *testing.T) {
	long := strings.Repeat("t", api.MaxText+1)
	b := written(func(w *octet.Writer) { w.Text(long) })
	sameBytes(t, "a long text's length", b[:3], unhex(t, "c0 80 01"))
	if string(b[3:]) != long {
		t.Error("a long text isn't written whole")
	}
	b = written(func(w *octet.Writer) { octet.Put(w, make([]bool, api.MaxList+1), (*octet.Writer).Bool) })
	sameBytes(t, "a long list's length", b[:2], unhex(t, "a0 01"))
	if len(b) != 2+api.MaxList+1 {
		t.Error("a long list isn't written whole")
	}
}

// P1.2: what Bytes tells is nobody else's.
func TestBytesAreNewMemory(t *testing.T) {
	w := &octet.Writer{}
	w.Text("abc")
	first := w.Bytes()
	clear(first[:cap(first)])
	sameBytes(t, "behind a change of the answer", w.Bytes(), unhex(t, "03 61 62 63"))
	second := w.Bytes()
	w.Byte(1)
	sameBytes(t, "an answer behind more writing", second[:cap(second)][:4], unhex(t, "03 61 62 63"))
	sameBytes(t, "more", w.Bytes(), unhex(t, "03 61 62 63 01"))
}

// P1.2: a list that is handed in stays as it is, and is gone through once.
func TestPutLeavesTheList(t *testing.T) {
	l := []byte{3, 1, 2}
	var seen []byte
	got := written(func(w *octet.Writer) {
		octet.Put(w, l, func(w *octet.Writer, c byte) {
			seen = append(seen, c)
			w.Byte(c)
		})
	})
	sameBytes(t, "the list", l, []byte{3, 1, 2})
	sameBytes(t, "what each was given", seen, l)
	if !bytes.Equal(got, []byte{3, 3, 1, 2}) {
		t.Errorf("% x", got)
	}
}

// No call panics, whatever it is given.
func TestWriterBearsNil(t *testing.T) {
	sameBytes(t, "no each", written(func(w *octet.Writer) { octet.Put(w, []int{1, 2}, nil) }), []byte{2})
	var w *octet.Writer
	w.Byte(1)
	w.Num(1)
	w.Int(1)
	w.Bool(true)
	w.Text("a")
	octet.Put(w, []byte{1}, (*octet.Writer).Byte)
	if len(w.Bytes()) != 0 {
		t.Error("a nil Writer has something")
	}
}
