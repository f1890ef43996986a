package octet_test

import (
	"bytes"
	"math"
	"math/rand"
	"slices"
	"testing"

	"lamella/octet"
)

type pair struct {
	n    int64
	text string
}

func layPair(w *octet.Writer, p pair) {
	w.Int(p.n)
	w.Text(p.text)
}

func takePair(r *octet.Reader) pair {
	n := r.Int()
	return pair{n, r.Text()}
}

// drawn is a thing of any kind that is laid, and a check that it is read back.
func drawn(d *rand.Rand) (lay func(*octet.Writer), back func(*octet.Reader) bool) {
	n := d.Uint64() >> d.Intn(64)
	text := string(someBytes(d, d.Intn(200)))
	switch d.Intn(6) {
	case 0:
		return func(w *octet.Writer) { w.Byte(byte(n)) }, func(r *octet.Reader) bool { return r.Byte() == byte(n) }
	case 1:
		return func(w *octet.Writer) { w.Num(n) }, func(r *octet.Reader) bool { return r.Num() == n }
	case 2:
		return func(w *octet.Writer) { w.Int(int64(n)) }, func(r *octet.Reader) bool { return r.Int() == int64(n) }
	case 3:
		return func(w *octet.Writer) { w.Bool(n%2 == 1) }, func(r *octet.Reader) bool { return r.Bool() == (n%2 == 1) }
	case 4:
		return func(w *octet.Writer) { w.Text(text) }, func(r *octet.Reader) bool { return r.Text() == text }
	}
	l := make([]pair, d.Intn(9))
	for i := range l {
		l[i] = pair{int64(d.Uint64()), string(someBytes(d, d.Intn(5)))}
	}
	return func(w *octet.Writer) { octet.Put(w, l, layPair) },
		func(r *octet.Reader) bool { return slices.Equal(octet.Get(r, takePair), l) }
}

// P1.5
func TestWhatIsWrittenIsReadBack(t *testing.T) {
	d := dice()
	for run := range 300 {
		w := &octet.Writer{}
		var backs []func(*octet.Reader) bool
		for range d.Intn(30) {
			lay, back := drawn(d)
			lay(w)
			backs = append(backs, back)
		}
		r := octet.NewReader(w.Bytes())
		for i, back := range backs {
			if !back(r) || r.Bad() {
				t.Fatalf("run %d: thing %d isn't read back", run, i)
			}
		}
		if !r.End() {
			t.Fatalf("run %d: %d bytes are left", run, r.Left())
		}
	}
}

// P1.5, with the numbers round about which groups begin.
func TestNumbersAreReadBack(t *testing.T) {
	for i := range 64 {
		for _, n := range []uint64{1<<i - 1, 1 << i, 1<<i + 1, math.MaxUint64 - 1<<i} {
			b := written(func(w *octet.Writer) {
				w.Num(n)
				w.Int(int64(n))
				w.Int(-int64(n))
			})
			r := octet.NewReader(b)
			if x, y, z := r.Num(), r.Int(), r.Int(); x != n || y != int64(n) || z != -int64(n) || !r.End() {
				t.Errorf("%d: %d, %d, %d", n, x, y, z)
			}
		}
	}
}

// P1.3: what is taken is just what would be written: no number stands in two ways.
func TestOnlyWhatIsWrittenIsRead(t *testing.T) {
	d := dice()
	check := func(b []byte) {
		r := octet.NewReader(b)
		n := r.Num()
		if taken := b[:len(b)-r.Left()]; !r.Bad() && !bytes.Equal(taken, written(func(w *octet.Writer) { w.Num(n) })) {
			t.Errorf("Num of % x is %d", taken, n)
		}
		r = octet.NewReader(b)
		i := r.Int()
		if taken := b[:len(b)-r.Left()]; !r.Bad() && !bytes.Equal(taken, written(func(w *octet.Writer) { w.Int(i) })) {
			t.Errorf("Int of % x is %d", taken, i)
		}
	}
	for n := range 1 << 16 {
		check([]byte{byte(n >> 8), byte(n)})
	}
	for range 20000 {
		b := someBytes(d, 1+d.Intn(14))
		for i := range len(b) - 1 {
			b[i] |= 128
		}
		check(b)
		b[0] &= 1
		check(b)
	}
}
