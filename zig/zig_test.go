package zig_test

import (
	"bytes"
	"encoding/binary"
	"math"
	"math/big"
	"strings"
	"testing"

	"assayer/api"
	"assayer/zig"
)

// roomy returns the bytes of s in a slice with unused capacity of marked bytes.
func roomy(s string) []byte {
	b := append([]byte(s), bytes.Repeat([]byte{0xEE}, 32)...)
	return b[:len(s)]
}

// untouched tells whether a slice of roomy is, with its capacity, as it was.
func untouched(b []byte, s string) bool {
	return string(b[:len(s)+32]) == s+strings.Repeat("\xEE", 32)
}

// scribble changes every byte that s can reach.
func scribble(s []byte) {
	s = s[:cap(s)]
	for i := range s {
		s[i] ^= 0xFF
	}
}

// noise returns n bytes by a rule, of all values.
func noise(n int) []byte {
	b := make([]byte, n)
	x := uint32(2463534242)
	for i := range b {
		x ^= x << 13
		x ^= x >> 17
		x ^= x << 5
		b[i] = byte(x >> 11)
	}
	return b
}

// numbers returns numbers of every length, at and around each power of two.
func numbers() []uint64 {
	all := []uint64{0x0123456789abcdef, 0xaaaaaaaaaaaaaaaa, 0x5555555555555555, math.MaxUint64}
	for bit := range 64 {
		p := uint64(1) << bit
		all = append(all, p-1, p, p+1, -p)
	}
	return all
}

// greatest returns the greatest number of so many bits.
func greatest(bits int) uint64 { return math.MaxUint64 >> (64 - bits) }

// length returns how many bytes a varint of so many bits may have.
func length(bits int) int { return int(math.Ceil(float64(bits) / 7)) }

// plainTake is the document's own words, with numbers of any size.
func plainTake(b []byte, bits int) (v uint64, n int, e api.Errno) {
	if bits < 1 || bits > 64 {
		return 0, 0, api.ErrArg
	}
	sum, bound := new(big.Int), new(big.Int).Lsh(big.NewInt(1), uint(bits))
	for number := 1; ; number++ {
		if number > len(b) {
			return 0, 0, api.ErrShort
		}
		x := b[number-1]
		group := big.NewInt(int64(x % 128))
		sum.Add(sum, group.Lsh(group, uint(7*(number-1))))
		if sum.Cmp(bound) >= 0 || number == length(bits) && x >= 128 {
			return 0, 0, api.ErrLong
		}
		if x < 128 {
			return sum.Uint64(), number, api.OK
		}
	}
}

// wantTake checks what Take answers, and that it leaves its argument as it is.
func wantTake(t *testing.T, s string, bits int, v uint64, n int, e api.Errno) {
	t.Helper()
	b := roomy(s)
	if gv, gn, ge := zig.Take(b, bits); gv != v || gn != n || ge != e {
		t.Errorf("Take(%x, %d): %d %d %d, want %d %d %d", s, bits, gv, gn, ge, v, n, e)
	}
	if !untouched(b, s) {
		t.Errorf("Take(%x, %d) wrote into its argument", s, bits)
	}
}

// P2.1

func TestZig32(t *testing.T) {
	for v, want := range map[int32]uint32{
		0: 0, -1: 1, 1: 2, -2: 3, 2: 4, -3: 5, 3: 6,
		-64: 127, 64: 128, -65: 129, 65: 130,
		1 << 30: 1 << 31, -1 << 30: 1<<31 - 1, 1<<30 - 1: 1<<31 - 2,
		math.MaxInt32 - 1: math.MaxUint32 - 3,
		math.MinInt32 + 1: math.MaxUint32 - 2,
		math.MaxInt32:     math.MaxUint32 - 1,
		math.MinInt32:     math.MaxUint32,
	} {
		if g := zig.Zig32(v); g != want {
			t.Errorf("Zig32(%d): %d, want %d", v, g, want)
		}
		if g := zig.Zag32(want); g != v {
			t.Errorf("Zag32(%d): %d, want %d", want, g, v)
		}
	}
}

func TestZig64(t *testing.T) {
	for v, want := range map[int64]uint64{
		0: 0, -1: 1, 1: 2, -2: 3, 2: 4, -3: 5, 3: 6,
		-64: 127, 64: 128, -65: 129, 65: 130,
		math.MaxInt32: math.MaxUint32 - 1, math.MinInt32: math.MaxUint32,
		math.MaxInt32 + 1: math.MaxUint32 + 1, math.MinInt32 - 1: math.MaxUint32 + 2,
		1 << 62: 1 << 63, -1 << 62: 1<<63 - 1, 1<<62 - 1: 1<<63 - 2,
		math.MaxInt64 - 1: math.MaxUint64 - 3,
		math.MinInt64 + 1: math.MaxUint64 - 2,
		math.MaxInt64:     math.MaxUint64 - 1,
		math.MinInt64:     math.MaxUint64,
	} {
		if g := zig.Zig64(v); g != want {
			t.Errorf("Zig64(%d): %d, want %d", v, g, want)
		}
		if g := zig.Zag64(want); g != v {
			t.Errorf("Zag64(%d): %d, want %d", want, g, v)
		}
	}
}

// The numbers in the order 0, -1, 1, -2, 2, .. have the places 0, 1, 2, 3, 4, ..
func TestZigCountsInTurn(t *testing.T) {
	for m := range uint32(70000) {
		v := int32(m / 2)
		if m%2 == 1 {
			v = -v - 1
		}
		if a, b := zig.Zig32(v), zig.Zag32(m); a != m || b != v {
			t.Fatalf("32 bits, %d and %d: %d %d", v, m, a, b)
		}
		if a, b := zig.Zig64(int64(v)), zig.Zag64(uint64(m)); a != uint64(m) || b != int64(v) {
			t.Fatalf("64 bits, %d and %d: %d %d", v, m, a, b)
		}
	}
}

func TestZigAndZagAreInverse(t *testing.T) {
	for _, u := range numbers() {
		if g := zig.Zig64(zig.Zag64(u)); g != u {
			t.Errorf("Zig64(Zag64(%d)): %d", u, g)
		}
		if g := zig.Zag64(zig.Zig64(int64(u))); g != int64(u) {
			t.Errorf("Zag64(Zig64(%d)): %d", int64(u), g)
		}
		if g := zig.Zig32(zig.Zag32(uint32(u))); g != uint32(u) {
			t.Errorf("Zig32(Zag32(%d)): %d", uint32(u), g)
		}
		if g := zig.Zag32(zig.Zig32(int32(u))); g != int32(u) {
			t.Errorf("Zag32(Zig32(%d)): %d", int32(u), g)
		}
	}
}

// P2.2

func TestPut(t *testing.T) {
	for v, want := range map[uint64]string{
		0: "\x00", 1: "\x01", 127: "\x7f",
		128: "\x80\x01", 129: "\x81\x01", 255: "\xff\x01", 256: "\x80\x02", 300: "\xac\x02",
		1<<14 - 1: "\xff\x7f", 1 << 14: "\x80\x80\x01",
		1<<21 - 1: "\xff\xff\x7f", 1 << 21: "\x80\x80\x80\x01",
		math.MaxInt32:    "\xff\xff\xff\xff\x07",
		math.MaxUint32:   "\xff\xff\xff\xff\x0f",
		math.MaxInt64:    "\xff\xff\xff\xff\xff\xff\xff\xff\x7f",
		1 << 63:          "\x80\x80\x80\x80\x80\x80\x80\x80\x80\x01",
		math.MaxUint64:   "\xff\xff\xff\xff\xff\xff\xff\xff\xff\x01",
		0x02468ACF13579B: "\x9b\xaf\xcd\xf8\xac\xd1\x91\x01",
	} {
		for _, before := range []string{"", "a", "\x80", "\x07\xff\x80"} {
			b := roomy(before)
			s := zig.Put(b, v)
			if string(s) != before+want {
				t.Errorf("Put(%x, %d): %x", before, v, s)
			}
			if !untouched(b, before) {
				t.Errorf("Put(%x, %d) wrote into its argument", before, v)
			}
			scribble(s)
			if !untouched(b, before) {
				t.Errorf("Put(%x, %d) shares memory with its argument", before, v)
			}
		}
		if s := zig.Put(nil, v); string(s) != want {
			t.Errorf("Put(nil, %d): %x", v, s)
		}
	}
}

func TestPutIsInAsFewBytesAsPossible(t *testing.T) {
	for _, v := range numbers() {
		s := zig.Put(nil, v)
		if string(s) != string(binary.AppendUvarint(nil, v)) {
			t.Errorf("Put(%d): %x", v, s)
		}
		if k := 7 * (len(s) - 1); k > 0 && v>>k == 0 {
			t.Errorf("Put(%d): %x is longer than necessary", v, s)
		}
	}
}

func TestTakeWhatPutWrote(t *testing.T) {
	for _, v := range numbers() {
		s := string(zig.Put(nil, v))
		for bits := 1; bits <= 64; bits++ {
			for _, after := range []string{"", "\x00", "\x80", "\xff\xff\xff\xff\xff\xff\xff\xff\xff\xff\xff"} {
				if v <= greatest(bits) {
					wantTake(t, s+after, bits, v, len(s), api.OK)
				} else {
					wantTake(t, s+after, bits, 0, 0, api.ErrLong)
				}
			}
		}
	}
}

func TestTakeOfEachNumberOfBits(t *testing.T) {
	for _, c := range []struct {
		s    string
		bits int
		v    uint64
		n    int
		e    api.Errno
	}{
		{"\x00", 1, 0, 1, api.OK},
		{"\x01", 1, 1, 1, api.OK},
		{"\x02", 1, 0, 0, api.ErrLong},
		{"\x40", 1, 0, 0, api.ErrLong},
		{"\x80", 1, 0, 0, api.ErrLong},
		{"\x81\x00", 1, 0, 0, api.ErrLong},
		{"\x3f", 6, 63, 1, api.OK},
		{"\x40", 6, 0, 0, api.ErrLong},
		{"\x7f", 7, 127, 1, api.OK},
		{"\x80", 7, 0, 0, api.ErrLong},
		{"\x80\x00", 7, 0, 0, api.ErrLong},
		{"\xff\x00", 7, 0, 0, api.ErrLong},
		{"\xff\x01", 8, 255, 2, api.OK},
		{"\x80\x01", 8, 128, 2, api.OK},
		{"\x80\x02", 8, 0, 0, api.ErrLong},
		{"\x80\x40", 8, 0, 0, api.ErrLong},
		{"\x80\x80", 8, 0, 0, api.ErrLong},
		{"\xff\x81", 8, 0, 0, api.ErrLong},
		{"\xff\x7f", 14, 1<<14 - 1, 2, api.OK},
		{"\xff\xff", 14, 0, 0, api.ErrLong},
		{"\x80\x80\x01", 15, 1 << 14, 3, api.OK},
		{"\x80\x80\x02", 15, 0, 0, api.ErrLong},
		{"\xff\xff\xff\xff\x07", 31, math.MaxInt32, 5, api.OK},
		{"\xff\xff\xff\xff\x08", 31, 0, 0, api.ErrLong},
		{"\xff\xff\xff\xff\x0f", 32, math.MaxUint32, 5, api.OK},
		{"\xff\xff\xff\xff\x10", 32, 0, 0, api.ErrLong},
		{"\x80\x80\x80\x80\x10", 32, 0, 0, api.ErrLong},
		{"\x80\x80\x80\x80\x40", 32, 0, 0, api.ErrLong},
		{"\x80\x80\x80\x80\x80", 32, 0, 0, api.ErrLong},
		{"\x80\x80\x80\x80\x8f\x00", 32, 0, 0, api.ErrLong},
		{"\x80\x80\x80\x80\x10", 64, 1 << 32, 5, api.OK},
		{"\xff\xff\xff\xff\xff\xff\xff\xff\x7f", 63, math.MaxInt64, 9, api.OK},
		{"\xff\xff\xff\xff\xff\xff\xff\xff\xff", 63, 0, 0, api.ErrLong},
		{"\xff\xff\xff\xff\xff\xff\xff\xff\xff\x01", 64, math.MaxUint64, 10, api.OK},
		{"\x80\x80\x80\x80\x80\x80\x80\x80\x80\x01", 64, 1 << 63, 10, api.OK},
		{"\xff\xff\xff\xff\xff\xff\xff\xff\xff\x02", 64, 0, 0, api.ErrLong},
		{"\x80\x80\x80\x80\x80\x80\x80\x80\x80\x40", 64, 0, 0, api.ErrLong},
		{"\x80\x80\x80\x80\x80\x80\x80\x80\x80\x80", 64, 0, 0, api.ErrLong},
		{"\x80\x80\x80\x80\x80\x80\x80\x80\x80\x81\x00", 64, 0, 0, api.ErrLong},
	} {
		wantTake(t, c.s, c.bits, c.v, c.n, c.e)
		// No byte behind the one that settles it is examined.
		wantTake(t, c.s+"\x00", c.bits, c.v, c.n, c.e)
		wantTake(t, c.s+"\xff\xff", c.bits, c.v, c.n, c.e)
	}
}

// A varint may be filled up with groups of zero, as far as its bits reach.
func TestTakeOfOneLongerThanNecessary(t *testing.T) {
	for bits := 1; bits <= 64; bits++ {
		for _, v := range []uint64{0, 1, greatest(bits), greatest(bits) >> 1} {
			s := string(zig.Put(nil, v))
			for n := len(s) + 1; n <= length(bits); n++ {
				s = s[:len(s)-1] + string([]byte{s[len(s)-1] | 0x80, 0})
				wantTake(t, s, bits, v, n, api.OK)
				wantTake(t, s+"\xff", bits, v, n, api.OK)
			}
			s = s[:len(s)-1] + string([]byte{s[len(s)-1] | 0x80, 0})
			wantTake(t, s, bits, 0, 0, api.ErrLong)
		}
	}
	wantTake(t, "\x80\x00", 32, 0, 2, api.OK)
	wantTake(t, "\x81\x80\x80\x80\x00", 32, 1, 5, api.OK)
	wantTake(t, "\x81\x80\x80\x80\x80\x80\x80\x80\x80\x00", 64, 1, 10, api.OK)
}

// Each byte but the last that may be has its highest bit set freely.
func TestTakeOfOneWithoutAnEnd(t *testing.T) {
	for bits := 1; bits <= 64; bits++ {
		for _, x := range []string{"\x80", "\x81"} {
			for n := range length(bits) {
				wantTake(t, strings.Repeat(x, n), bits, 0, 0, api.ErrShort)
			}
			for n := length(bits); n <= 12; n++ {
				wantTake(t, strings.Repeat(x, n), bits, 0, 0, api.ErrLong)
			}
		}
	}
}

// Every single bit is either within the number of bits, or too much.
func TestTakeOfOneBit(t *testing.T) {
	for bits := 1; bits <= 64; bits++ {
		for bit := range 7 * length(bits) {
			s := strings.Repeat("\x80", bit/7) + string([]byte{1 << (bit % 7)})
			if bit < bits {
				wantTake(t, s, bits, 1<<bit, len(s), api.OK)
			} else {
				wantTake(t, s, bits, 0, 0, api.ErrLong)
			}
		}
	}
}

func TestTakeOfOneCutOff(t *testing.T) {
	for _, v := range numbers() {
		s := zig.Put(nil, v)
		for k := range s {
			// The rest lies in the unused capacity: it doesn't count.
			if g, n, e := zig.Take(s[:k], 64); g != 0 || n != 0 || e != api.ErrShort {
				t.Errorf("%d, cut off at %d: %d %d %d", v, k, g, n, e)
			}
		}
	}
	if v, n, e := zig.Take(nil, 64); v != 0 || n != 0 || e != api.ErrShort {
		t.Errorf("Take(nil): %d %d %d", v, n, e)
	}
}

func TestTakeOfAnotherNumberOfBits(t *testing.T) {
	for _, bits := range []int{math.MinInt, math.MinInt32, -64, -7, -1, 0, 65, 70, 128, math.MaxInt32, math.MaxInt} {
		// Ahead of all other errors: of bytes that end too soon, of too many.
		for _, s := range []string{"", "\x00", "\x01", "\x80", strings.Repeat("\xff", 20)} {
			wantTake(t, s, bits, 0, 0, api.ErrArg)
		}
		if v, n, e := zig.Take(nil, bits); v != 0 || n != 0 || e != api.ErrArg {
			t.Errorf("Take(nil, %d): %d %d %d", bits, v, n, e)
		}
	}
}

func TestTakeOfOneAfterTheOther(t *testing.T) {
	var b []byte
	for _, v := range numbers() {
		b = zig.Put(b, v)
	}
	for _, want := range numbers() {
		v, n, e := zig.Take(b, 64)
		if v != want || e != api.OK {
			t.Fatalf("%d: %d %d %d", want, v, n, e)
		}
		b = b[n:]
	}
	if len(b) != 0 {
		t.Errorf("%d bytes are left", len(b))
	}
}

// R1, R2, R4: for bytes of any kind, the answer is the document's, and the same twice.
func TestAnyBytes(t *testing.T) {
	all := noise(2000)
	for at := range all {
		b := bytes.Clone(all[at:min(at+at%13, len(all))])
		for i := range min(len(b), at%11) { // so that some varints are long ones
			b[i] |= 0x80
		}
		for bits := -1; bits <= 66; bits++ {
			v, n, e := plainTake(b, bits)
			wantTake(t, string(b), bits, v, n, e)
			wantTake(t, string(b), bits, v, n, e)
		}
	}
}
