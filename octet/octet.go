// Package octet: numbers and strings as bytes, checksums, sealed records.
package octet

import "assayer/api"

const (
	maxWidth    = 8 // bytes of a number
	textWidth   = 4 // bytes of a string's length
	lengthWidth = 3 // bytes of a sealed record's length
	sumWidth    = 4 // bytes of a checksum
	sealLimit   = 1 << 24
	polynomial  = 0x82F63B78 // of CRC-32C, lowest bit first
)

// Put returns b followed by the n low bytes of v, big-endian; just b if n is
// not from 0 to 8.
func Put(b []byte, v uint64, n int) []byte {
	if !isWidth(n) {
		return extend(b, 0)
	}
	return push(extend(b, n), v, n)
}

// Take returns the big-endian number in the first n bytes of b.
func Take(b []byte, n int) (v uint64, e api.Errno) {
	if !isWidth(n) {
		return 0, api.ErrArg
	}
	if len(b) < n {
		return 0, api.ErrShort
	}
	for _, x := range b[:n] {
		v = v<<8 | uint64(x)
	}
	return v, api.OK
}

// PutText returns b followed by the length of s in four bytes, and s.
func PutText(b []byte, s string) []byte {
	out := push(extend(b, textWidth+len(s)), uint64(len(s)), textWidth)
	return append(out, s...)
}

// TakeText returns the string at the beginning of b, and the offset of its end.
func TakeText(b []byte) (s string, n int, e api.Errno) {
	size, e := Take(b, textWidth)
	if e != api.OK {
		return "", 0, e
	}
	rest := b[textWidth:]
	// Compared as 64 bits: four bytes may hold more than an int of 32 bits.
	if uint64(len(rest)) < size {
		return "", 0, api.ErrShort
	}
	return string(rest[:size]), textWidth + int(size), api.OK
}

// Sum returns the CRC-32C of b.
func Sum(b []byte) uint32 {
	register := ^uint32(0)
	for _, x := range b {
		register ^= uint32(x)
		for range 8 {
			// -(register & 1) is all ones or zero: no branch for each bit.
			register = register>>1 ^ polynomial&-(register&1)
		}
	}
	return ^register
}

// Seal returns the sealed record of b, or nothing if b is too long for one.
func Seal(b []byte) []byte {
	if len(b) >= sealLimit {
		return nil
	}
	out := make([]byte, 0, lengthWidth+len(b)+sumWidth)
	out = push(out, uint64(len(b)), lengthWidth)
	out = append(out, b...)
	return push(out, uint64(Sum(b)), sumWidth)
}

// Unseal returns the data of the sealed record at the beginning of b, and the
// length of the record.
func Unseal(b []byte) (s []byte, n int, e api.Errno) {
	size, e := Take(b, lengthWidth)
	if e != api.OK {
		return nil, 0, e
	}
	end := lengthWidth + int(size)
	if len(b) < end+sumWidth {
		return nil, 0, api.ErrShort
	}
	data := b[lengthWidth:end]
	if sum, _ := Take(b[end:], sumWidth); uint32(sum) != Sum(data) {
		return nil, 0, api.ErrForm
	}
	return extend(data, 0), end + sumWidth, api.OK
}

func isWidth(n int) bool { return 0 <= n && n <= maxWidth }

// extend returns a copy of b with room for n more bytes: what is appended to it
// never lands in the unused capacity of b.
func extend(b []byte, n int) []byte {
	return append(make([]byte, 0, len(b)+n), b...)
}

// push appends the n low bytes of v to b itself, big-endian.
func push(b []byte, v uint64, n int) []byte {
	for shift := 8 * (n - 1); shift >= 0; shift -= 8 {
		b = append(b, byte(v>>shift))
	}
	return b
}
