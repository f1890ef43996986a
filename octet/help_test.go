package octet_test

import (
	"bytes"
	"encoding/hex"
	"math/rand"
	"strings"
	"testing"

	"lamella/octet"
)

// unhex takes bytes as the tests tell them, blanks between.
func unhex(t *testing.T, s string) []byte {
	t.Helper()
	b, err := hex.DecodeString(strings.ReplaceAll(s, " ", ""))
	if err != nil {
		t.Fatal(err)
	}
	return b
}

// written is what the calls lay on a zero Writer.
func written(calls func(*octet.Writer)) []byte {
	w := &octet.Writer{}
	calls(w)
	return w.Bytes()
}

func sameBytes(t *testing.T, what string, got, want []byte) {
	t.Helper()
	if !bytes.Equal(got, want) {
		t.Errorf("%s: got % x, want % x", what, got, want)
	}
}

// dice are the same in each run.
func dice() *rand.Rand { return rand.New(rand.NewSource(1)) }

func someBytes(d *rand.Rand, n int) []byte {
	b := make([]byte, n)
	d.Read(b)
	return b
}

// isBad asks a bad reader each call, twice over: all must be zero values, and stay so.
func isBad(t *testing.T, what string, r *octet.Reader) {
	t.Helper()
	for range 2 {
		if !r.Bad() || r.End() || r.Left() != 0 {
			t.Errorf("%s: bad %v, end %v, left %d", what, r.Bad(), r.End(), r.Left())
		}
		if c, n, i := r.Byte(), r.Num(), r.Int(); c != 0 || n != 0 || i != 0 {
			t.Errorf("%s: a bad reader tells %d, %d, %d", what, c, n, i)
		}
		if b, s := r.Bool(), r.Text(); b || s != "" {
			t.Errorf("%s: a bad reader tells %v, %q", what, b, s)
		}
		if l := octet.Get(r, (*octet.Reader).Byte); len(l) != 0 {
			t.Errorf("%s: a bad reader tells %v", what, l)
		}
	}
}
