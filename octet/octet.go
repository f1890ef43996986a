// Package octet is layer 1: see shared/doc/01-octet.md.
package octet

// turned is the sum's polynomial with its bits in turned order, as the register holds them.
const turned = 0xEDB88320

// Sum: P1.1. A sum of nothing is 0, so that each part is just more of it.
func Sum(parts ...[]byte) uint32 {
	var sum uint32
	for _, p := range parts {
		sum = More(sum, p)
	}
	return sum
}

// More: P1.1.
func More(sum uint32, b []byte) uint32 {
	register := ^sum
	for _, c := range b {
		register = shiftByte(register ^ uint32(c))
	}
	return ^register
}

func shiftByte(register uint32) uint32 {
	for range 8 {
		lowest := register & 1
		register >>= 1
		if lowest == 1 {
			register ^= turned
		}
	}
	return register
}
