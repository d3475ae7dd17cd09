package octet_test

import (
	"bytes"
	"hash/crc32"
	"math"
	"strings"
	"testing"

	"assayer/api"
	"assayer/octet"
)

const sample = 0x0123456789abcdef

// roomy returns the bytes of s in a slice with unused capacity of marked bytes.
func roomy(s string) []byte {
	b := append([]byte(s), bytes.Repeat([]byte{0xEE}, 32)...)
	return b[:len(s)]
}

// untouched tells whether a slice of roomy is, with its capacity, as it was.
func untouched(b []byte, s string) bool {
	return string(b[:len(s)+32]) == s+strings.Repeat("\xEE", 32)
}

// scribble changes every byte that s can reach.
func scribble(s []byte) {
	s = s[:cap(s)]
	for i := range s {
		s[i] ^= 0xFF
	}
}

// plainSum is the document's own words, bit by bit.
func plainSum(b []byte) uint32 {
	register := uint32(math.MaxUint32)
	for _, x := range b {
		for bit := range 8 {
			low := register & 1
			register >>= 1
			if low != uint32(x>>bit)&1 {
				register ^= 0x82F63B78
			}
		}
	}
	return ^register
}

// noise returns n bytes by a rule, of all values.
func noise(n int) []byte {
	b := make([]byte, n)
	x := uint32(2463534242)
	for i := range b {
		x ^= x << 13
		x ^= x >> 17
		x ^= x << 5
		b[i] = byte(x >> 11)
	}
	return b
}

// P1.1

func TestPutWritesTheLowBytes(t *testing.T) {
	whole := "\x01\x23\x45\x67\x89\xab\xcd\xef"
	for n := 0; n <= 8; n++ {
		b := roomy("ab")
		if s := octet.Put(b, sample, n); string(s) != "ab"+whole[8-n:] {
			t.Errorf("Put of %d bytes: %x", n, s)
		}
		if s := octet.Put(nil, sample, n); string(s) != whole[8-n:] {
			t.Errorf("Put of %d bytes on nil: %x", n, s)
		}
	}
}

func TestPutEdges(t *testing.T) {
	for _, c := range []struct {
		v    uint64
		n    int
		want string
	}{
		{0, 1, "\x00"},
		{0, 8, "\x00\x00\x00\x00\x00\x00\x00\x00"},
		{255, 1, "\xff"},
		{256, 1, "\x00"},
		{256, 2, "\x01\x00"},
		{math.MaxUint64, 3, "\xff\xff\xff"},
		{math.MaxUint64, 8, "\xff\xff\xff\xff\xff\xff\xff\xff"},
		{1 << 63, 8, "\x80\x00\x00\x00\x00\x00\x00\x00"},
		{1 << 63, 7, "\x00\x00\x00\x00\x00\x00\x00"},
	} {
		if s := octet.Put([]byte{}, c.v, c.n); string(s) != c.want {
			t.Errorf("Put(%x, %d): %x", c.v, c.n, s)
		}
	}
}

func TestPutOfAnotherWidth(t *testing.T) {
	for _, n := range []int{math.MinInt, math.MinInt32, -9, -8, -1, 9, 10, 16, 64, 256, math.MaxInt32, math.MaxInt} {
		if s := octet.Put([]byte("ab"), sample, n); string(s) != "ab" {
			t.Errorf("Put of %d bytes: %x", n, s)
		}
		if s := octet.Put(nil, sample, n); len(s) != 0 {
			t.Errorf("Put of %d bytes on nil: %x", n, s)
		}
	}
}

func TestPutSharesNothing(t *testing.T) {
	for n := -1; n <= 9; n++ {
		b := roomy("ab")
		s := octet.Put(b, sample, n)
		if !untouched(b, "ab") {
			t.Errorf("Put of %d bytes wrote into its argument", n)
		}
		scribble(s)
		if !untouched(b, "ab") {
			t.Errorf("Put of %d bytes shares memory with its argument", n)
		}
	}
}

func TestTakeReadsTheFirstBytes(t *testing.T) {
	b := roomy("\x01\x23\x45\x67\x89\xab\xcd\xef\x55")
	for n := 0; n <= 8; n++ {
		want := uint64(0)
		if n > 0 {
			want = uint64(sample) >> (64 - 8*n)
		}
		if v, e := octet.Take(b, n); v != want || e != api.OK {
			t.Errorf("Take of %d bytes: %x %d", n, v, e)
		}
		if v, e := octet.Take(b[:n], n); v != want || e != api.OK {
			t.Errorf("Take of just %d bytes: %x %d", n, v, e)
		}
	}
	if v, e := octet.Take(bytes.Repeat([]byte{0xFF}, 8), 8); v != math.MaxUint64 || e != api.OK {
		t.Errorf("Take of the greatest number: %x %d", v, e)
	}
	if v, e := octet.Take(nil, 0); v != 0 || e != api.OK {
		t.Errorf("Take of nothing: %x %d", v, e)
	}
	if !untouched(b, "\x01\x23\x45\x67\x89\xab\xcd\xef\x55") {
		t.Error("Take wrote into its argument")
	}
}

func TestTakeErrors(t *testing.T) {
	for n := 1; n <= 8; n++ {
		for k := range n {
			// The unused capacity holds enough bytes, but they don't count.
			if v, e := octet.Take(roomy(strings.Repeat("\x07", k)), n); v != 0 || e != api.ErrShort {
				t.Errorf("Take of %d bytes from %d: %x %d", n, k, v, e)
			}
		}
	}
	for _, n := range []int{math.MinInt, -8, -1, 9, 10, math.MaxInt} {
		for _, b := range [][]byte{nil, {1}, make([]byte, 8), noise(300)} {
			if v, e := octet.Take(b, n); v != 0 || e != api.ErrArg {
				t.Errorf("Take of %d bytes from %d: %x %d", n, len(b), v, e)
			}
		}
	}
}

func TestTakeWhatPutWrote(t *testing.T) {
	for n := 0; n <= 8; n++ {
		for _, v := range []uint64{0, 1, 0x7f, 0x80, 0xff, 0x100, 0xfffe, 1 << 31, 1 << 32, sample, 1 << 63, math.MaxUint64} {
			want := v
			if n < 8 {
				want = v % (1 << (8 * n))
			}
			if w, e := octet.Take(octet.Put(nil, v, n), n); w != want || e != api.OK {
				t.Errorf("%x in %d bytes: %x %d", v, n, w, e)
			}
		}
	}
}

// P1.2

func TestPutText(t *testing.T) {
	long := strings.Repeat("xyz", 30000)
	for _, c := range []struct{ before, s, want string }{
		{"", "", "\x00\x00\x00\x00"},
		{"ab", "", "ab\x00\x00\x00\x00"},
		{"", "c", "\x00\x00\x00\x01c"},
		{"ab", "\x00\xff", "ab\x00\x00\x00\x02\x00\xff"},
		{"", "é", "\x00\x00\x00\x02\xc3\xa9"},
		{"", strings.Repeat("q", 256), "\x00\x00\x01\x00" + strings.Repeat("q", 256)},
		{"-", long, "-\x00\x01\x5f\x90" + long},
	} {
		b := roomy(c.before)
		s := octet.PutText(b, c.s)
		if string(s) != c.want {
			t.Errorf("PutText(%q) of %d bytes: %x", c.before, len(c.s), s)
		}
		scribble(s)
		if !untouched(b, c.before) {
			t.Errorf("PutText of %d bytes: its argument isn't as it was", len(c.s))
		}
	}
	if s := octet.PutText(nil, "ab"); string(s) != "\x00\x00\x00\x02ab" {
		t.Errorf("PutText on nil: %x", s)
	}
}

func TestTakeText(t *testing.T) {
	for _, c := range []struct {
		b, s string
		n    int
	}{
		{"\x00\x00\x00\x00", "", 4},
		{"\x00\x00\x00\x00abc", "", 4},
		{"\x00\x00\x00\x02ab", "ab", 6},
		{"\x00\x00\x00\x02abc", "ab", 6},
		{"\x00\x00\x00\x03\x00\xff\xc3", "\x00\xff\xc3", 7},
	} {
		b := roomy(c.b)
		s, n, e := octet.TakeText(b)
		if s != c.s || n != c.n || e != api.OK || !untouched(b, c.b) {
			t.Errorf("TakeText(%q): %q %d %d", c.b, s, n, e)
		}
		scribble(b)
		if s != c.s {
			t.Errorf("TakeText(%q): the string changes with the argument", c.b)
		}
	}
}

func TestTakeTextTooShort(t *testing.T) {
	for _, b := range []string{
		"", "\x00", "\x00\x00\x00", "\x00\x00\x00\x01", "\x00\x00\x00\x02a",
		"\x00\x00\x01\x00abc", "\x00\x01\x00\x00abc", "\x01\x00\x00\x00abc",
		"\x7f\xff\xff\xffabc", "\x80\x00\x00\x00abc", "\x80\x00\x00\x03abc",
		"\xff\xff\xff\xfc", "\xff\xff\xff\xffabc",
	} {
		if s, n, e := octet.TakeText(roomy(b)); s != "" || n != 0 || e != api.ErrShort {
			t.Errorf("TakeText(%x): %q %d %d", b, s, n, e)
		}
	}
	if s, n, e := octet.TakeText(nil); s != "" || n != 0 || e != api.ErrShort {
		t.Errorf("TakeText(nil): %q %d %d", s, n, e)
	}
}

func TestTakeTextOfWhatPutTextWrote(t *testing.T) {
	for _, size := range []int{0, 1, 2, 255, 256, 257, 65535, 65536, 1 << 20} {
		want := string(noise(size))
		b := octet.PutText(nil, want)
		s, n, e := octet.TakeText(append(bytes.Clone(b), "more"...))
		if s != want || n != size+4 || e != api.OK {
			t.Errorf("a text of %d bytes: %d bytes, %d %d", size, len(s), n, e)
		}
		for _, k := range []int{0, 3, 4, size, size + 3} {
			if k >= len(b) {
				continue
			}
			if s, n, e := octet.TakeText(b[:k]); s != "" || n != 0 || e != api.ErrShort {
				t.Errorf("a text of %d bytes, cut off at %d: %d %d", size, k, n, e)
			}
		}
	}
}

// P1.3

func TestSum(t *testing.T) {
	for _, c := range []struct {
		b    string
		want uint32
	}{
		{"", 0},
		{"123456789", 0xE3069283},
		{strings.Repeat("\x00", 32), 0x8A9136AA},
		{strings.Repeat("\xff", 32), 0x62A8AB43},
	} {
		b := roomy(c.b)
		if s := octet.Sum(b); s != c.want || !untouched(b, c.b) {
			t.Errorf("Sum(%q): %x", c.b, s)
		}
	}
	if s := octet.Sum(nil); s != 0 {
		t.Errorf("Sum(nil): %x", s)
	}
}

func TestSumIsTheDocumentsRule(t *testing.T) {
	table := crc32.MakeTable(crc32.Castagnoli)
	for x := range 256 {
		b := []byte{byte(x)}
		if s := octet.Sum(b); s != plainSum(b) || s != crc32.Checksum(b, table) {
			t.Errorf("Sum of the byte %d: %x", x, s)
		}
	}
	b := noise(600)
	for n := range b {
		if s := octet.Sum(b[:n]); s != plainSum(b[:n]) || s != crc32.Checksum(b[:n], table) {
			t.Errorf("Sum of %d bytes: %x", n, s)
		}
	}
}

func TestSeal(t *testing.T) {
	for _, c := range []struct{ b, want string }{
		{"", "\x00\x00\x00\x00\x00\x00\x00"},
		{"123456789", "\x00\x00\x09123456789\xe3\x06\x92\x83"},
		{strings.Repeat("\x00", 32), "\x00\x00\x20" + strings.Repeat("\x00", 32) + "\x8a\x91\x36\xaa"},
	} {
		b := roomy(c.b)
		s := octet.Seal(b)
		if string(s) != c.want {
			t.Errorf("Seal(%q): %x", c.b, s)
		}
		scribble(s)
		if !untouched(b, c.b) {
			t.Errorf("Seal(%q): its argument isn't as it was", c.b)
		}
	}
	if s := octet.Seal(nil); string(s) != "\x00\x00\x00\x00\x00\x00\x00" {
		t.Errorf("Seal(nil): %x", s)
	}
}

func TestSealOfTheLongest(t *testing.T) {
	b := noise(1<<24 + 1)
	if s := octet.Seal(b); len(s) != 0 {
		t.Errorf("Seal of 2^24 + 1 bytes: %d bytes", len(s))
	}
	if s := octet.Seal(b[:1<<24]); len(s) != 0 {
		t.Errorf("Seal of 2^24 bytes: %d bytes", len(s))
	}
	b = b[:1<<24-1]
	f := octet.Seal(b)
	if len(f) != 1<<24+6 || string(f[:3]) != "\xff\xff\xff" {
		t.Fatalf("Seal of 2^24 - 1 bytes: %d bytes", len(f))
	}
	if s, n, e := octet.Unseal(f); !bytes.Equal(s, b) || n != len(f) || e != api.OK {
		t.Errorf("Unseal of 2^24 - 1 bytes: %d bytes, %d %d", len(s), n, e)
	}
	if s, n, e := octet.Unseal(f[:len(f)-1]); len(s) != 0 || n != 0 || e != api.ErrShort {
		t.Errorf("Unseal of 2^24 - 1 bytes, cut off: %d bytes, %d %d", len(s), n, e)
	}
}

func TestUnsealOfWhatSealWrote(t *testing.T) {
	for _, size := range []int{0, 1, 2, 3, 4, 7, 255, 256, 300, 65535, 65536} {
		want := noise(size)
		f := octet.Seal(want)
		if len(f) != size+7 {
			t.Errorf("Seal of %d bytes: %d bytes", size, len(f))
		}
		for _, after := range []string{"", "\x00", string(f)} {
			b := roomy(string(f) + after)
			s, n, e := octet.Unseal(b)
			if !bytes.Equal(s, want) || n != len(f) || e != api.OK {
				t.Errorf("Unseal of %d bytes: %d bytes, %d %d", size, len(s), n, e)
			}
			scribble(s)
			if !untouched(b, string(f)+after) {
				t.Errorf("Unseal of %d bytes: its argument isn't as it was", size)
			}
		}
	}
}

func TestUnsealOfOneCutOff(t *testing.T) {
	for _, size := range []int{0, 1, 9, 256, 300} {
		f := octet.Seal(noise(size))
		for k := range f {
			// The rest of the record lies in the unused capacity: it doesn't count.
			if s, n, e := octet.Unseal(f[:k]); len(s) != 0 || n != 0 || e != api.ErrShort {
				t.Errorf("%d bytes, cut off at %d: %x %d %d", size, k, s, n, e)
			}
		}
	}
	if s, n, e := octet.Unseal(nil); len(s) != 0 || n != 0 || e != api.ErrShort {
		t.Errorf("Unseal(nil): %x %d %d", s, n, e)
	}
	if s, n, e := octet.Unseal([]byte("\xff\xff\xffabcdefgh")); len(s) != 0 || n != 0 || e != api.ErrShort {
		t.Errorf("Unseal of a length without data: %x %d %d", s, n, e)
	}
}

func TestUnsealOfOneChanged(t *testing.T) {
	for _, size := range []int{0, 1, 9, 256, 300} {
		f := octet.Seal(noise(size))
		for k := 3; k < len(f); k++ {
			for bit := range 8 {
				f[k] ^= 1 << bit
				if s, n, e := octet.Unseal(f); len(s) != 0 || n != 0 || e != api.ErrForm {
					t.Errorf("%d bytes, bit %d of byte %d changed: %x %d %d", size, bit, k, s, n, e)
				}
				f[k] ^= 1 << bit
			}
		}
	}
}

func TestUnsealTellsShortFirst(t *testing.T) {
	f := octet.Seal([]byte("123456789"))
	f[5] ^= 1
	if s, n, e := octet.Unseal(f[:len(f)-1]); len(s) != 0 || n != 0 || e != api.ErrShort {
		t.Errorf("changed and cut off: %x %d %d", s, n, e)
	}
}

func TestUnsealOfOneAfterTheOther(t *testing.T) {
	texts := []string{"", "a", "123456789", strings.Repeat("z", 500)}
	var b []byte
	for _, s := range texts {
		b = append(b, octet.Seal([]byte(s))...)
	}
	for _, want := range texts {
		s, n, e := octet.Unseal(b)
		if string(s) != want || n != len(want)+7 || e != api.OK {
			t.Fatalf("%q: %q %d %d", want, s, n, e)
		}
		b = b[n:]
	}
	if len(b) != 0 {
		t.Errorf("%d bytes are left", len(b))
	}
}

// R1, R2, R4: for bytes of any kind, each answer is one that the promises allow, and the same twice.
func TestAnyBytes(t *testing.T) {
	all := noise(4096)
	for at := range all {
		for _, size := range []int{0, 1, 2, 3, 4, 5, 7, 8, 11, 40} {
			b := all[at:min(at+size, len(all))]
			if len(b) > 1 { // so that some lengths are small ones
				b = append([]byte{0, 0, b[0] % 8}, b[1:]...)
			}
			checkText(t, b)
			checkSealed(t, b)
		}
	}
}

func checkText(t *testing.T, b []byte) {
	s, n, e := octet.TakeText(b)
	if s2, n2, e2 := octet.TakeText(b); s2 != s || n2 != n || e2 != e {
		t.Errorf("TakeText(%x) twice: %q %d %d, %q %d %d", b, s, n, e, s2, n2, e2)
	}
	if e == api.OK {
		if n > len(b) || !bytes.Equal(octet.PutText(nil, s), b[:n]) {
			t.Errorf("TakeText(%x): %q %d", b, s, n)
		}
	} else if e != api.ErrShort || s != "" || n != 0 {
		t.Errorf("TakeText(%x): %q %d %d", b, s, n, e)
	}
}

func checkSealed(t *testing.T, b []byte) {
	s, n, e := octet.Unseal(b)
	if s2, n2, e2 := octet.Unseal(b); !bytes.Equal(s2, s) || n2 != n || e2 != e {
		t.Errorf("Unseal(%x) twice: %x %d %d, %x %d %d", b, s, n, e, s2, n2, e2)
	}
	if e == api.OK {
		if n > len(b) || !bytes.Equal(octet.Seal(s), b[:n]) {
			t.Errorf("Unseal(%x): %x %d", b, s, n)
		}
	} else if e != api.ErrShort && e != api.ErrForm || len(s) != 0 || n != 0 {
		t.Errorf("Unseal(%x): %x %d %d", b, s, n, e)
	}
}
