package octet

import "lamella/api"

// wordSize is how many bytes a frame's length and its sum have each.
const wordSize = 4

// Frame: P1.4.
func Frame(b []byte) ([]byte, api.Errno) {
	if len(b) > api.MaxText {
		return nil, api.ErrBig
	}
	f := make([]byte, 0, len(b)+2*wordSize)
	f = layWord(f, uint32(len(b)))
	f = append(f, b...)
	return layWord(f, Sum(f)), api.OK
}

// Unframe: P1.4. The length is held against MaxText ahead of all reckoning with it, so that none runs over.
func Unframe(b []byte, at int) (data []byte, next int, e api.Errno) {
	if at < 0 || at > len(b) {
		return nil, 0, api.ErrArg
	}
	rest := b[at:]
	if len(rest) == 0 {
		return nil, 0, api.ErrNone
	}
	if len(rest) < wordSize {
		return nil, 0, api.ErrCode
	}
	length := takeWord(rest)
	if length > api.MaxText {
		return nil, 0, api.ErrCode
	}
	end := wordSize + int(length)
	if len(rest) < end+wordSize {
		return nil, 0, api.ErrCode
	}
	if takeWord(rest[end:]) != Sum(rest[:end]) {
		return nil, 0, api.ErrSum
	}
	return append([]byte(nil), rest[wordSize:end]...), at + end + wordSize, api.OK
}

func layWord(b []byte, n uint32) []byte {
	for range wordSize {
		b = append(b, byte(n))
		n >>= 8
	}
	return b
}

func takeWord(b []byte) uint32 {
	var n uint32
	for i := range wordSize {
		n |= uint32(b[i]) << (8 * i)
	}
	return n
}
