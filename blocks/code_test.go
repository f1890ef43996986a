package blocks_test

import (
	"bytes"
	"math"
	"slices"
	"strings"
	"testing"

	"lamella/api"
	"lamella/blocks"
)

// P5.6
func TestEncode(t *testing.T) {
	for what, c := range map[string]struct {
		got  *blocks.Store
		want []byte
	}{
		"made":        {made(t), laid(2, 6, 0, madeCells()...)},
		"frozen":      {frozen(t, made(t)), laid(2, 6, 1, madeCells()...)},
		"new":         {begun(t, 0, 1), []byte{0, 1, 0, 0, 0, 0, 0, 0}},
		"all blocks":  {begun(t, 0, 256), laid(0, 256, 0, make([]cell, 256)...)},
		"two letters": {after(t, write(3, 300, 0, "ab")), []byte{0, 2, 0, 2, 'a', 'b', 0, 0, 0, 0x82, 0x2c, 0, 0, 0, 0, 0}},
	} {
		if got := c.got.Encode(); !bytes.Equal(got, c.want) {
			t.Errorf("%s: % .60x, want % .60x", what, got, c.want)
		}
	}
}

// P5.6
func TestDecode(t *testing.T) {
	s := decoded(t, laid(2, 6, 0, madeCells()...))
	has(t, "made", s, 2, false, madeCells()...)
	same(t, "made", true, s, made(t))
	does(t, s, write(1, 8, 2, "b"))
	has(t, "frozen", decoded(t, laid(2, 6, 1, madeCells()...)), 2, true, madeCells()...)
	edges := []cell{{hollow, [4]int{1 << 40, 1 << 40, 1 << 40, 1 << 40}}, {full, [4]int{1, 127, 128, 1<<40 - 1}}}
	has(t, "edges", decoded(t, laid(254, 256, 0, edges...)), 254, false, edges...)
	most := slices.Repeat(edges[:1], 256)
	has(t, "the greatest", decoded(t, laid(0, 256, 1, most...)), 0, true, most...)
}

// noStore checks a Decode of other bytes.
func noStore(t *testing.T, what string, b []byte) {
	t.Helper()
	s, e := blocks.Decode(b)
	refused(t, what, api.ErrCode, s, e)
}

// P5.6: neither a beginning of a store nor one with something behind it is one.
func TestDecodeOfPieces(t *testing.T) {
	for _, b := range [][]byte{laid(2, 6, 0, madeCells()...), laid(0, 3, 1, make([]cell, 3)...), laid(255, 256, 0, cell{"a", [4]int{300, 1, 1 << 40, 0}})} {
		for n := range len(b) {
			noStore(t, "a beginning", b[:n])
		}
		for c := range 256 {
			noStore(t, "one with something behind it", append(slices.Clone(b), byte(c)))
		}
		noStore(t, "twice", append(slices.Clone(b), b...))
	}
	noStore(t, "nothing", nil)
	noStore(t, "an empty row", []byte{})
}

// P5.6, P5.3: the span must be one that a store may have.
func TestDecodeOfSpans(t *testing.T) {
	for _, s := range [][2]uint64{
		{0, 0}, {1, 1}, {2, 1}, {256, 256}, {256, 257}, {255, 257}, {0, 257}, {300, 301}, {1, 0},
		{math.MaxUint64, 0}, {math.MaxUint64, 1}, {math.MaxUint64 - 1, math.MaxUint64}, {0, math.MaxUint64}, {0, 1 << 63}, {1<<63 - 1, 1 << 63}, {1 << 63, 1}, {1 << 32, 1<<32 + 1}, {0, 1<<32 + 1},
	} {
		for n := range 4 {
			noStore(t, "a span that may not be", laid(s[0], s[1], 0, make([]cell, n)...))
		}
		noStore(t, "a span that may not be", laid(s[0], s[1], 0, make([]cell, 257)...))
	}
	noStore(t, "one block too few", laid(0, 4, 0, make([]cell, 3)...))
	noStore(t, "one block too many", laid(0, 4, 0, make([]cell, 5)...))
	for frozen := 2; frozen < 256; frozen++ {
		noStore(t, "neither frozen nor not", laid(0, 1, byte(frozen), cell{}))
	}
}

// P5.6, P5.1, P5.2: texts and marks must be such as there may be.
func TestDecodeOfTextsAndMarks(t *testing.T) {
	for i := range 3 {
		with := func(c cell) []byte {
			l := slices.Repeat([]cell{{"a", [4]int{1, 2, 3, 4}}}, 3)
			l[i] = c
			return laid(5, 8, 0, l...)
		}
		for _, text := range []string{"\x00", "a\x00", full + "f", strings.Repeat("\x00", 4096), full[1:] + "\x00", strings.Repeat("f", 1<<20), strings.Repeat("f", 1<<20+1)} {
			noStore(t, "no block's text", with(cell{text, [4]int{1}}))
		}
		for client := range 4 {
			for _, seq := range []int{1<<40 + 1, 1 << 41, math.MaxInt, math.MinInt, -1, -1 << 40} { // below 0: a Num of 2^63 or more
				var c cell
				c.marks[client] = seq
				noStore(t, "no mark", with(c))
			}
			var c cell
			c.marks[client] = 1 << 40
			decoded(t, with(c))
		}
	}
	noStore(t, "a Num that begins with a group of 0", []byte{0, 1, 0, 0, 128, 0, 0, 0, 0})
	noStore(t, "a Num of more than 64 bits", []byte{0, 1, 0, 0, 0x82, 0x80, 0x80, 0x80, 0x80, 0x80, 0x80, 0x80, 0x80, 0x80, 0, 0, 0, 0})
}

// P5.6: whatever is decoded is what is encoded, and nothing else is.
func TestDecodeOfAnyBytes(t *testing.T) {
	d := dice()
	stores := 0
	for range 50000 {
		b := laid(uint64(d.Intn(3)), uint64(3+d.Intn(2)), byte(d.Intn(2)), cell{"ab", [4]int{1, 200}}, cell{}, cell{"c", [4]int{}})
		if d.Intn(4) == 0 {
			b = make([]byte, d.Intn(20))
			for i := range b {
				b[i] = byte(d.Intn(3))
			}
		}
		for range d.Intn(3) {
			if len(b) > 0 {
				b[d.Intn(len(b))] = byte(d.Intn(4) + 126*d.Intn(2))
			}
		}
		s, e := blocks.Decode(b)
		if e == api.OK {
			stores++
			if !bytes.Equal(s.Encode(), b) {
				t.Fatalf("% x is decoded, and encoded as % x", b, s.Encode())
			}
			continue
		}
		refused(t, "other bytes", api.ErrCode, s, e)
	}
	if stores < 1000 {
		t.Error("hardly any were stores", stores)
	}
}

// Rule 4: bytes that are handed in are neither changed nor kept; those that are answered are new memory.
func TestMemoryOfBytes(t *testing.T) {
	b, untouched := roomy(laid(2, 6, 0, madeCells()...), 1, 2, 3)
	s := decoded(t, b)
	if !untouched() {
		t.Error("the bytes were changed")
	}
	clear(b)
	has(t, "behind a change of the bytes", s, 2, false, madeCells()...)
	got := s.Encode()
	clear(got[:cap(got)])
	has(t, "behind a change of the answer", s, 2, false, madeCells()...)
	if !bytes.Equal(s.Encode(), laid(2, 6, 0, madeCells()...)) {
		t.Error("the next answer isn't as it was")
	}
}
