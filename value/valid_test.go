package value_test

import (
	"slices"
	"strings"
	"testing"

	"assayer/value"
)

func wantValid(t *testing.T, s string, want bool) {
	t.Helper()
	if value.Valid(s) != want {
		t.Errorf("Valid of %.50x, %d bytes: %t", s, len(s), !want)
	}
}

// encoded is a number in n bytes of UTF-8, told by arithmetic, if it needs fewer or not.
func encoded(c, n int) string {
	if n == 1 {
		return string([]byte{byte(c)})
	}
	b := make([]byte, n)
	for i := n - 1; i > 0; i-- {
		b[i] = byte(128 + c%64)
		c /= 64
	}
	b[0] = byte(256 - 256>>n + c)
	return string(b)
}

// shortest is how many bytes a number needs.
func shortest(c int) int {
	for n, beyond := range []int{1 << 7, 1 << 11, 1 << 16} {
		if c < beyond {
			return n + 1
		}
	}
	return 4
}

func isPoint(c int) bool { return c <= 0x10FFFF && (c < 0xD800 || c > 0xDFFF) }

func TestEdgesOfEachLength(t *testing.T) {
	for c, s := range map[int]string{
		0: "\x00", 0x7f: "\x7f", 0x80: "\xc2\x80", 0x7ff: "\xdf\xbf", 0x800: "\xe0\xa0\x80", 0xffff: "\xef\xbf\xbf", 0x10000: "\xf0\x90\x80\x80", 0x10ffff: "\xf4\x8f\xbf\xbf",
		0xd7ff: "\xed\x9f\xbf", 0xe000: "\xee\x80\x80", 0xfffe: "\xef\xbf\xbe", 0xfffd: "\xef\xbf\xbd", 0xfeff: "\xef\xbb\xbf",
	} {
		if encoded(c, shortest(c)) != s {
			t.Fatalf("the test's own bytes of %x: %x", c, encoded(c, shortest(c)))
		}
		wantValid(t, s, true)
		wantValid(t, "a"+s+s+"b", true)
		// Cut off, ahead and behind, and with a byte too many.
		for i := 1; i < len(s); i++ {
			wantValid(t, s[:i], false)
			wantValid(t, "a"+s[:i], false)
			wantValid(t, s[:i]+"a", false)
			wantValid(t, s[:i]+s, false)
			wantValid(t, s[i:], false)
			wantValid(t, s+s[i:], false)
		}
		wantValid(t, s+"\x80", false)
		wantValid(t, s+"\xbf", false)
		wantValid(t, "\x80"+s, false)
		for n := shortest(c) + 1; n <= 7; n++ {
			wantValid(t, encoded(c, n), false)
			wantValid(t, "a"+encoded(c, n)+"b", false)
		}
	}
	wantValid(t, "", true)
}

func TestSurrogatesAndBeyond(t *testing.T) {
	for _, s := range []string{
		"\xed\xa0\x80", "\xed\xad\xbf", "\xed\xae\x80", "\xed\xaf\xbf", "\xed\xb0\x80", "\xed\xbf\xbf", "\xed\xa0\x80\xed\xb0\x80", // U+D800 to U+DFFF, and a pair of them
		"\xf4\x90\x80\x80", "\xf4\xbf\xbf\xbf", "\xf5\x80\x80\x80", "\xf7\xbf\xbf\xbf", "\xf8\x88\x80\x80\x80", "\xfb\xbf\xbf\xbf\xbf", "\xfc\x84\x80\x80\x80\x80", "\xfd\xbf\xbf\xbf\xbf\xbf", "\xfe", "\xff", "\xfe\xff", "\xff\xfe",
		"\xc0\x80", "\xc1\xbf", "\xe0\x80\x80", "\xe0\x9f\xbf", "\xf0\x80\x80\x80", "\xf0\x8f\xbf\xbf", "\xf8\x80\x80\x80\x80", "\xfc\x80\x80\x80\x80\x80",
	} {
		wantValid(t, s, false)
		wantValid(t, "abc"+s, false)
		wantValid(t, s+"abc", false)
		wantValid(t, strings.Repeat("x", 1000)+s+strings.Repeat("y", 1000), false)
	}
}

// TestAllNumbers has each number of up to 21 bits, in each length that has room for it.
func TestAllNumbers(t *testing.T) {
	t.Parallel()
	for c := range 1 << 21 {
		for n := shortest(c); n <= 4; n++ {
			want := isPoint(c) && n == shortest(c)
			if value.Valid(encoded(c, n)) != want {
				t.Fatalf("Valid of %x in %d bytes: %t", c, n, !want)
			}
		}
	}
}

// TestAllShortTexts has all texts of up to three bytes, and those of four that begin as
// one of four does: valid is what is made of the shortest forms.
func TestAllShortTexts(t *testing.T) {
	t.Parallel()
	points := make([]map[string]bool, 5)
	for n := range points {
		points[n] = map[string]bool{}
	}
	for c := range 1 << 16 {
		if isPoint(c) {
			points[shortest(c)][encoded(c, shortest(c))] = true
		}
	}
	// made[n] tells of each text of n bytes, as a number, whether it is made of them.
	made := [][]bool{{true}, nil, nil, nil}
	for n := 1; n <= 3; n++ {
		made[n] = make([]bool, 1<<(8*n))
		for first := 1; first <= n; first++ {
			for p := range points[first] {
				head := 0
				for _, b := range []byte(p) {
					head = head<<8 | int(b)
				}
				for rest, ok := range made[n-first] {
					if ok {
						made[n][head<<(8*(n-first))|rest] = true
					}
				}
			}
		}
		b := make([]byte, n)
		for x, want := range made[n] {
			for i := range b {
				b[i] = byte(x >> (8 * (n - 1 - i)))
			}
			if value.Valid(string(b)) != want {
				t.Fatalf("Valid of %x: %t", b, !want)
			}
		}
	}
}

// TestEdgesOfFourBytes has the edges of bytes in each of four places, and in five.
func TestEdgesOfFourBytes(t *testing.T) {
	t.Parallel()
	var edges []byte
	for _, b := range []int{0, 0x7f, 0x80, 0x8f, 0x90, 0x9f, 0xa0, 0xbf, 0xc0, 0xc2, 0xdf, 0xe0, 0xed, 0xf0, 0xf1, 0xf4, 0xf5, 0xff} {
		edges = append(edges, byte(b))
	}
	points := map[string]bool{}
	for c := range 0x110000 {
		if s := encoded(c, shortest(c)); isPoint(c) && slices.Contains(edges, s[len(s)-1]) {
			points[s] = true
		}
	}
	var valid func(s string) bool
	valid = func(s string) bool {
		for n := 1; n <= min(4, len(s)); n++ {
			if points[s[:n]] && valid(s[n:]) {
				return true
			}
		}
		return s == ""
	}
	counts := map[bool]int{}
	var all func(s string, more int)
	all = func(s string, more int) {
		if more == 0 {
			want := valid(s)
			counts[want]++
			wantValid(t, s, want)
			return
		}
		for _, b := range edges {
			all(s+string([]byte{b}), more-1)
		}
	}
	all("", 4)
	all("\xf1", 3)
	all("\xe1\x80", 3)
	if counts[true] < 50 || counts[false] < 1000 {
		t.Errorf("texts that are and are not: %v", counts)
	}
}

func TestLongTexts(t *testing.T) {
	t.Parallel()
	for _, s := range []string{"a", "\u00e4", "\u20ac", "\U0001f600", "a\u00e4\u20ac\U0001f600"} {
		long := strings.Repeat(s, 1<<20)
		wantValid(t, long, true)
		wantValid(t, long+"\xff", false)
		wantValid(t, "\x80"+long, false)
		if len(s) > 1 {
			wantValid(t, long[:len(long)-1], false)
		}
		wantValid(t, long[:len(s)*1000]+"\xed\xa0\x80"+long[len(s)*1000:], false)
	}
}
