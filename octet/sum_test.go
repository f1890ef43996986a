package octet_test

import (
	"hash/crc32"
	"math"
	"testing"

	"lamella/octet"
)

// byTheRule does what P1.1 says, word for word, with the register from the number on.
func byTheRule(sum uint32, b []byte) uint32 {
	register := sum ^ 0xffffffff
	for _, c := range b {
		register = register&0xffffff00 | (register&0xff ^ uint32(c))
		for i := 0; i < 8; i++ {
			if register%2 == 1 {
				register = register/2 ^ 0xedb88320
			} else {
				register = register / 2
			}
		}
	}
	return register ^ 0xffffffff
}

// P1.1
func TestSumOfKnownBytes(t *testing.T) {
	known := map[string]uint32{
		"":                  0,
		"\x00":              0xd202ef8d,
		"\xff":              0xff000000,
		"a":                 0xe8b7be43,
		"123456789":         0xcbf43926,
		"\x00\x00\x00\x00":  0x2144df1c,
		"\xff\xff\xff\xff":  0xffffffff,
		"lamella\x80\x7f\n": byTheRule(0, []byte("lamella\x80\x7f\n")),
	}
	for s, want := range known {
		if got := octet.Sum([]byte(s)); got != want {
			t.Errorf("Sum(%q) = %08x, want %08x", s, got, want)
		}
	}
}

// P1.1
func TestSumByTheRule(t *testing.T) {
	d := dice()
	for n := range 300 {
		b := someBytes(d, n)
		got := octet.Sum(b)
		if got != byTheRule(0, b) || got != crc32.ChecksumIEEE(b) {
			t.Errorf("Sum(% x) = %08x", b, got)
		}
	}
}

// P1.1
func TestSumOfParts(t *testing.T) {
	if octet.Sum() != 0 || octet.Sum(nil) != 0 || octet.Sum(nil, []byte{}, nil) != 0 {
		t.Error("a sum of nothing isn't 0")
	}
	b := someBytes(dice(), 20)
	want := octet.Sum(b)
	for i := range len(b) + 1 {
		for j := i; j <= len(b); j++ {
			if got := octet.Sum(b[:i], b[i:j], b[j:]); got != want {
				t.Errorf("cut at %d and %d: %08x, want %08x", i, j, got, want)
			}
		}
	}
	if octet.Sum(b[:3], b[3:5]) == octet.Sum(b[3:5], b[:3]) {
		t.Error("the parts' order doesn't matter")
	}
}

// P1.1
func TestMoreOfASum(t *testing.T) {
	b := someBytes(dice(), 40)
	for i := range len(b) + 1 {
		if got := octet.More(octet.Sum(b[:i]), b[i:]); got != octet.Sum(b) {
			t.Errorf("more behind %d: %08x", i, got)
		}
	}
}

// P1.1
func TestMoreOfAnyNumber(t *testing.T) {
	d := dice()
	numbers := []uint32{0, 1, 0x80000000, 0xedb88320, math.MaxUint32}
	for range 50 {
		numbers = append(numbers, d.Uint32())
	}
	for i, n := range numbers {
		if octet.More(n, nil) != n {
			t.Errorf("More(%08x) of nothing is %08x", n, octet.More(n, nil))
		}
		b := someBytes(d, i+1)
		got := octet.More(n, b)
		if got != byTheRule(n, b) || got != crc32.Update(n, crc32.IEEETable, b) {
			t.Errorf("More(%08x, % x) = %08x", n, b, got)
		}
	}
}

// P1.6
func TestTurnedBitsChangeSum(t *testing.T) {
	for _, n := range []int{5, 12, 70} {
		b := someBytes(dice(), n)
		sum := octet.Sum(b)
		eachBurst(8*n, func(start int, pattern uint32) {
			x := turn(b, start, pattern)
			if octet.Sum(x) == sum {
				t.Fatalf("bits %x turned from %d on: the sum is the same", pattern, start)
			}
		})
	}
}
