package octet_test

import (
	"bytes"
	"math"
	"math/rand"
	"slices"
	"testing"

	"lamella/api"
	"lamella/octet"
)

func frame(t *testing.T, b []byte) []byte {
	t.Helper()
	f, e := octet.Frame(b)
	if e != api.OK {
		t.Fatal(len(b), e)
	}
	return f
}

// unframes checks an answer that is an error: all else is zero.
func unframes(t *testing.T, what string, b []byte, at int, want api.Errno) {
	t.Helper()
	data, next, e := octet.Unframe(b, at)
	if e != want || len(data) != 0 || next != 0 {
		t.Errorf("%s: %d bytes, next %d, error %d, want %d", what, len(data), next, e, want)
	}
}

// framed lays a frame by the words of P1.4, whatever length it tells.
func framed(length uint32, b []byte) []byte {
	f := append([]byte{byte(length), byte(length >> 8), byte(length >> 16), byte(length >> 24)}, b...)
	s := byTheRule(0, f)
	return append(f, byte(s), byte(s>>8), byte(s>>16), byte(s>>24))
}

// P1.4
func TestFrameOfBytes(t *testing.T) {
	sameBytes(t, "a frame of nothing", frame(t, nil), unhex(t, "00 00 00 00 1c df 44 21"))
	sameBytes(t, "a frame of nothing", frame(t, []byte{}), unhex(t, "00 00 00 00 1c df 44 21"))
	for _, n := range []int{1, 2, 255, 256, 300, 70000} {
		b := someBytes(dice(), n)
		if !bytes.Equal(frame(t, b), framed(uint32(n), b)) {
			t.Errorf("a frame of %d bytes isn't what it should be", n)
		}
	}
}

// P1.4
func TestFrameAtItsLimit(t *testing.T) {
	b := someBytes(dice(), api.MaxText+1)
	f := frame(t, b[:api.MaxText])
	if !bytes.Equal(f, framed(api.MaxText, b[:api.MaxText])) {
		t.Error("a frame of MaxText bytes isn't what it should be")
	}
	data, next, e := octet.Unframe(f, 0)
	if e != api.OK || next != len(f) || !bytes.Equal(data, b[:api.MaxText]) {
		t.Error(len(data), next, e)
	}
	if f, e := octet.Frame(b); e != api.ErrBig || len(f) != 0 {
		t.Error(len(f), e)
	}
}

// P1.4
func TestUnframe(t *testing.T) {
	texts := [][]byte{{}, {1}, someBytes(dice(), 300), {}, []byte("end")}
	all := []byte{}
	for _, b := range texts {
		all = append(all, frame(t, b)...)
	}
	at := 0
	for i, b := range texts {
		data, next, e := octet.Unframe(all, at)
		if e != api.OK || !bytes.Equal(data, b) || next != at+len(b)+8 {
			t.Errorf("frame %d: %d bytes, next %d, error %d", i, len(data), next, e)
		}
		at = next
	}
	unframes(t, "behind the last frame", all, at, api.ErrNone)
}

// P1.4
func TestUnframePlaces(t *testing.T) {
	f := frame(t, []byte("ab"))
	for _, at := range []int{-1, -8, math.MinInt, len(f) + 1, len(f) + 9, math.MaxInt} {
		unframes(t, "a place outside", f, at, api.ErrArg)
	}
	unframes(t, "the length", f, len(f), api.ErrNone)
	unframes(t, "nothing at 0", nil, 0, api.ErrNone)
	unframes(t, "nothing at 1", nil, 1, api.ErrArg)
	unframes(t, "nothing at -1", []byte{}, -1, api.ErrArg)
	roomy := append(make([]byte, 0, 64), f...)
	unframes(t, "a place in the spare room", roomy, len(f)+1, api.ErrArg)
	if data, next, e := octet.Unframe(f, 0); e != api.OK || string(data) != "ab" || next != len(f) {
		t.Error(data, next, e)
	}
	for at := len(f) - 3; at < len(f); at++ {
		unframes(t, "fewer than four bytes", f, at, api.ErrCode)
	}
}

// P1.4
func TestUnframeBadLengths(t *testing.T) {
	for _, s := range []string{
		"01", "00 00", "00 00 00", "00 00 00 00", "00 00 00 00 1c df 44",
		"05 00 00 00 61 62", "ff ff ff ff", "ff ff ff ff 01 02 03 04 05 06 07 08", "f8 ff ff ff 01 02 03 04",
		"00 00 00 80 00 00 00 00 00 00 00 00",
	} {
		unframes(t, s, unhex(t, s), 0, api.ErrCode)
	}
	b := someBytes(dice(), api.MaxText+1)
	unframes(t, "a length above MaxText, all there", framed(api.MaxText+1, b), 0, api.ErrCode)
	f := frame(t, b[:api.MaxText])
	unframes(t, "MaxText, but a byte", f[:len(f)-1], 0, api.ErrCode)
}

// P1.4: a false sum that is also too short, or too long, is ErrCode.
func TestUnframeSums(t *testing.T) {
	f := frame(t, []byte("abc"))
	for i := range f {
		for bit := range 8 {
			x := slices.Clone(f)
			x[i] ^= 1 << bit
			_, _, e := octet.Unframe(x, 0)
			if i >= 4 && e != api.ErrSum {
				t.Errorf("byte %d, bit %d: %d", i, bit, e)
			}
			if e == api.OK {
				t.Errorf("byte %d, bit %d: nothing is told", i, bit)
			}
		}
	}
	x := append(slices.Clone(f), f...)
	x[len(x)-1]++
	unframes(t, "the second frame", x, len(f), api.ErrSum)
	if _, next, e := octet.Unframe(x, 0); e != api.OK || next != len(f) {
		t.Error("a fault in the second frame is told of the first one", next, e)
	}
	short := slices.Clone(f[:len(f)-1])
	short[5] ^= 1
	unframes(t, "turned, and too short", short, 0, api.ErrCode)
}

// Rule 4: arguments stay as they are, answers are new memory.
func TestFrameMemory(t *testing.T) {
	room := []byte("abcdefghijklmnop")
	f := frame(t, room[:3])
	if string(room) != "abcdefghijklmnop" {
		t.Errorf("%s", room)
	}
	clear(f)
	if string(room) != "abcdefghijklmnop" {
		t.Errorf("%s", room)
	}
	f = frame(t, room[:3])
	kept := slices.Clone(f)
	data, _, _ := octet.Unframe(f, 0)
	clear(data[:cap(data)])
	sameBytes(t, "the frame behind a change of its data", f, kept)
}

// turn is b with the pattern's bits turned from the bit start on, each byte's lowest first.
func turn(b []byte, start int, pattern uint32) []byte {
	x := slices.Clone(b)
	for i := range 32 {
		if pattern>>i&1 == 1 {
			x[(start+i)/8] ^= 1 << ((start + i) % 8)
		}
	}
	return x
}

// eachBurst calls f with rows of turned bits within 32 that have room in so many bits: all short ones, and some of each length.
func eachBurst(room int, f func(start int, pattern uint32)) {
	d := rand.New(rand.NewSource(2))
	for start := range room {
		for length := 1; length <= min(32, room-start); length++ {
			ends := uint32(1) | 1<<(length-1)
			if length <= 8 {
				for p := range uint32(1) << length {
					if p&ends == ends {
						f(start, p)
					}
				}
				continue
			}
			f(start, ends)
			f(start, uint32(1<<length-1))
			for range 4 {
				f(start, d.Uint32()&uint32(1<<length-1)|ends)
			}
		}
	}
}

// P1.6
func TestTurnedBitsOfAFrame(t *testing.T) {
	for _, n := range []int{0, 1, 3, 9, 50} {
		f := frame(t, someBytes(dice(), n))
		eachBurst(8*(len(f)-4), func(start int, pattern uint32) {
			x := turn(f, 32+start, pattern)
			if data, next, e := octet.Unframe(x, 0); e != api.ErrSum || len(data) != 0 || next != 0 {
				t.Fatalf("%d bytes, bits %x turned from %d on: %d", n, pattern, start, e)
			}
		})
	}
}

// P1.7
func TestNoBeginningOfAFrameIsOne(t *testing.T) {
	d := dice()
	for _, n := range []int{0, 1, 2, 7, 8, 9, 255, 256, 300} {
		for _, b := range [][]byte{make([]byte, n), someBytes(d, n), frame(t, make([]byte, n))} {
			f := frame(t, b)
			ahead := append([]byte("xyz"), f...)
			for k := range len(f) {
				want := api.ErrCode
				if k == 0 {
					want = api.ErrNone
				}
				unframes(t, "a beginning", f[:k], 0, want)
				unframes(t, "a beginning behind others", ahead[:3+k], 3, want)
			}
		}
	}
}
