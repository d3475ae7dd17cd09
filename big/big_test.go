package big_test

import (
	"math"
	natural "math/big"
	"slices"
	"strconv"
	"testing"

	"assayer/big"
)

const (
	ones = math.MaxUint32
	half = 1 << 31
	mark = 0xEEEEEEEE
	room = 4
)

// roomy returns a copy of x with unused capacity of marked elements.
func roomy(x []uint32) []uint32 {
	b := slices.Clone(x)
	for range room {
		b = append(b, mark)
	}
	return b[:len(x)]
}

// untouched tells whether a slice of roomy is, with its capacity, as it was.
func untouched(b, x []uint32) bool {
	return slices.Equal(b[:len(x)+room], roomy(x)[:len(x)+room])
}

// scribble changes every element that x can reach.
func scribble(x []uint32) {
	x = x[:cap(x)]
	for i := range x {
		x[i] ^= ones
	}
}

// plain returns x as the library has it.
func plain(x []uint32) *natural.Int {
	b := make([]byte, 0, 4*len(x))
	for _, v := range slices.Backward(x) {
		b = append(b, byte(v>>24), byte(v>>16), byte(v>>8), byte(v))
	}
	return new(natural.Int).SetBytes(b)
}

// elements returns the library's v as the document has it.
func elements(v *natural.Int) []uint32 {
	v = new(natural.Int).Set(v)
	mask := natural.NewInt(ones)
	var x []uint32
	for v.Sign() > 0 {
		x = append(x, uint32(new(natural.Int).And(v, mask).Uint64()))
		v.Rsh(v, 32)
	}
	return x
}

// trimmed returns x without elements 0 at its end.
func trimmed(x []uint32) []uint32 { return elements(plain(x)) }

// brief tells x, or the ends of it.
func brief(x []uint32) string {
	s := strconv.Itoa(len(x)) + " elements {"
	for i, v := range x {
		if i < 6 || i >= len(x)-3 {
			s += " " + strconv.FormatUint(uint64(v), 16)
		}
	}
	return s + " }"
}

// equal checks that lists of numbers are, element by element, the ones wanted:
// so no result has an element 0 at its end.
func equal(t *testing.T, what string, got, want, of [][]uint32) {
	t.Helper()
	for i := range want {
		if slices.Equal(got[i], want[i]) {
			continue
		}
		t.Errorf("%s, result %d: %s, want %s", what, i, brief(got[i]), brief(want[i]))
		for _, x := range of {
			t.Errorf("    of %s", brief(x))
		}
	}
}

// ask checks what a call answers, twice, that it leaves its arguments as they
// are, and that its results share no memory with them or with each other.
func ask(t *testing.T, what string, call func(a [][]uint32) [][]uint32, args, want [][]uint32) {
	t.Helper()
	given := make([][]uint32, len(args))
	for i, x := range args {
		given[i] = roomy(x)
	}
	for range 2 {
		got := call(given)
		for i := range got {
			equal(t, what, got[i:], want[i:], args)
			scribble(got[i])
		}
		for i, x := range args {
			if !untouched(given[i], x) {
				t.Errorf("%s wrote into its argument %d, or shares it: %s", what, i, brief(x))
			}
		}
	}
}

func wantOf(t *testing.T, v uint64, want []uint32) {
	t.Helper()
	ask(t, "Of("+strconv.FormatUint(v, 10)+")", func([][]uint32) [][]uint32 {
		return [][]uint32{big.Of(v)}
	}, nil, [][]uint32{want})
}

func wantTen(t *testing.T, n int, want []uint32) {
	t.Helper()
	ask(t, "Ten("+strconv.Itoa(n)+")", func([][]uint32) [][]uint32 {
		return [][]uint32{big.Ten(n)}
	}, nil, [][]uint32{want})
}

func wantMul(t *testing.T, x, y, want []uint32) {
	t.Helper()
	ask(t, "Mul", func(a [][]uint32) [][]uint32 {
		return [][]uint32{big.Mul(a[0], a[1])}
	}, [][]uint32{x, y}, [][]uint32{want})
}

func wantAdd(t *testing.T, x, y, want []uint32) {
	t.Helper()
	ask(t, "Add", func(a [][]uint32) [][]uint32 {
		return [][]uint32{big.Add(a[0], a[1])}
	}, [][]uint32{x, y}, [][]uint32{want})
}

func wantSub(t *testing.T, x, y, want []uint32, wantOK bool) {
	t.Helper()
	ask(t, "Sub", func(a [][]uint32) [][]uint32 {
		d, ok := big.Sub(a[0], a[1])
		if ok != wantOK {
			t.Errorf("Sub: %t, of %s and %s", ok, brief(x), brief(y))
		}
		return [][]uint32{d}
	}, [][]uint32{x, y}, [][]uint32{want})
}

func wantCmp(t *testing.T, x, y []uint32, want int) {
	t.Helper()
	ask(t, "Cmp", func(a [][]uint32) [][]uint32 {
		if c := big.Cmp(a[0], a[1]); c != want {
			t.Errorf("Cmp: %d, want %d, of %s and %s", c, want, brief(x), brief(y))
		}
		return nil
	}, [][]uint32{x, y}, nil)
}

func wantShl(t *testing.T, x []uint32, n int, want []uint32) {
	t.Helper()
	ask(t, "Shl by "+strconv.Itoa(n), func(a [][]uint32) [][]uint32 {
		return [][]uint32{big.Shl(a[0], n)}
	}, [][]uint32{x}, [][]uint32{want})
}

func wantDiv(t *testing.T, x, y, q, r []uint32, wantOK bool) {
	t.Helper()
	ask(t, "Div", func(a [][]uint32) [][]uint32 {
		q, r, ok := big.Div(a[0], a[1])
		if ok != wantOK {
			t.Errorf("Div: %t, of %s by %s", ok, brief(x), brief(y))
		}
		return [][]uint32{q, r}
	}, [][]uint32{x, y}, [][]uint32{q, r})
}

func wantBits(t *testing.T, x []uint32, want int) {
	t.Helper()
	ask(t, "Bits", func(a [][]uint32) [][]uint32 {
		if n := big.Bits(a[0]); n != want {
			t.Errorf("Bits: %d, want %d, of %s", n, want, brief(x))
		}
		return nil
	}, [][]uint32{x}, nil)
}

func wantLow(t *testing.T, x []uint32, want uint64) {
	t.Helper()
	ask(t, "Low", func(a [][]uint32) [][]uint32 {
		if v := big.Low(a[0]); v != want {
			t.Errorf("Low: %d, want %d, of %s", v, want, brief(x))
		}
		return nil
	}, [][]uint32{x}, nil)
}

// noise returns n elements by a rule, the last one not 0.
func noise(n int, seed uint32) []uint32 {
	b := make([]uint32, n)
	for i := range b {
		seed ^= seed << 13
		seed ^= seed >> 17
		seed ^= seed << 5
		b[i] = seed
	}
	return b
}

// power returns 2^n.
func power(n int) []uint32 {
	x := make([]uint32, n/32+1)
	x[n/32] = 1 << (n % 32)
	return x
}

// full returns 2^(32n) - 1, each element all ones.
func full(n int) []uint32 { return slices.Repeat([]uint32{ones}, n) }

// zeros returns x with n elements 0 at its end.
func zeros(x []uint32, n int) []uint32 {
	return append(slices.Clone(x), make([]uint32, n)...)
}

// samples returns numbers of up to 200 elements: some with elements 0 at the
// end, and such as carry far.
func samples() [][]uint32 {
	all := [][]uint32{nil, {}, {0}, make([]uint32, 3), make([]uint32, 200)}
	for _, v := range []uint32{1, 2, 3, 10, 0x7FFFFFFF, half, half + 1, ones - 1, ones} {
		all = append(all, []uint32{v}, []uint32{v, 0}, []uint32{0, v}, []uint32{v, ones}, []uint32{ones, v, 0, 0})
	}
	for _, n := range []int{2, 3, 31, 64, 199, 200} {
		less := append([]uint32{ones - 1}, full(n-1)...)
		all = append(all, full(n), less, power(32*n-1), power(32*n-32), noise(n, 2463534242), noise(n, uint32(n)))
	}
	for _, n := range []int{1, 2, 31, 100} {
		all = append(all, zeros(noise(n, 77), 1), zeros(full(n), 100), zeros(power(32*n-1), 200-n))
	}
	return all
}

// P3.1

func TestOf(t *testing.T) {
	for v, want := range map[uint64][]uint32{
		0: nil, 1: {1}, 5: {5}, half: {half}, ones - 1: {ones - 1}, ones: {ones},
		1 << 32: {0, 1}, 1<<32 + 1: {1, 1}, 1 << 63: {0, half},
		0x0123456789ABCDEF: {0x89ABCDEF, 0x01234567},
		math.MaxUint64 - 1: {ones - 1, ones}, math.MaxUint64: {ones, ones},
	} {
		wantOf(t, v, want)
	}
}

func TestTen(t *testing.T) {
	wantTen(t, 0, []uint32{1})
	wantTen(t, 1, []uint32{10})
	wantTen(t, 9, []uint32{1000000000})
	wantTen(t, 10, []uint32{1410065408, 2})
	ten, want := natural.NewInt(10), natural.NewInt(1)
	for n := range 1001 {
		wantTen(t, n, elements(want))
		want.Mul(want, ten)
	}
}

func TestTenOfANegativeNumber(t *testing.T) {
	for _, n := range []int{-1, -2, -9, -10, -1000, -1001, math.MinInt32, math.MinInt} {
		wantTen(t, n, nil)
	}
}

func TestMul(t *testing.T) {
	for _, c := range []struct{ x, y, want []uint32 }{
		{nil, nil, nil},
		{nil, []uint32{7, 8}, nil},
		{[]uint32{0, 0}, []uint32{7, 8, 0}, nil},
		{[]uint32{1}, []uint32{7, 8, 0}, []uint32{7, 8}},
		{[]uint32{3}, []uint32{5}, []uint32{15}},
		{[]uint32{1 << 16}, []uint32{1 << 16}, []uint32{0, 1}},
		{[]uint32{ones}, []uint32{ones}, []uint32{1, ones - 1}},
		{[]uint32{ones, ones}, []uint32{ones, ones}, []uint32{1, 0, ones - 1, ones}},
		{[]uint32{0, 0, 2}, []uint32{0, 3}, []uint32{0, 0, 0, 6}},
		{[]uint32{ones, 0, 0}, []uint32{2, 0}, []uint32{ones - 1, 1}},
	} {
		wantMul(t, c.x, c.y, c.want)
		wantMul(t, c.y, c.x, c.want)
	}
}

func TestAdd(t *testing.T) {
	for _, c := range []struct{ x, y, want []uint32 }{
		{nil, nil, nil},
		{[]uint32{0, 0}, []uint32{0}, nil},
		{nil, []uint32{7}, []uint32{7}},
		{[]uint32{0}, []uint32{7, 8, 0, 0}, []uint32{7, 8}},
		{[]uint32{1, 0}, []uint32{2, 0, 0}, []uint32{3}},
		{[]uint32{ones}, []uint32{1}, []uint32{0, 1}},
		{[]uint32{ones}, []uint32{ones}, []uint32{ones - 1, 1}},
		{[]uint32{ones, ones}, []uint32{1}, []uint32{0, 0, 1}},
		{[]uint32{ones, ones}, []uint32{1, 0, 0, 0}, []uint32{0, 0, 1}},
		{[]uint32{ones, ones}, []uint32{ones, ones}, []uint32{ones - 1, ones, 1}},
		{[]uint32{1, 2, 3}, []uint32{0, 0, 0, 4}, []uint32{1, 2, 3, 4}},
		{full(200), []uint32{1}, power(6400)},
		{full(200), zeros([]uint32{1}, 199), power(6400)},
		{full(199), append([]uint32{1}, zeros(nil, 198)...), power(6368)},
	} {
		wantAdd(t, c.x, c.y, c.want)
		wantAdd(t, c.y, c.x, c.want)
	}
}

func TestSub(t *testing.T) {
	for _, c := range []struct{ x, y, want []uint32 }{
		{nil, nil, nil},
		{nil, []uint32{0, 0}, nil},
		{[]uint32{0, 0}, nil, nil},
		{[]uint32{7}, nil, []uint32{7}},
		{[]uint32{7, 0}, []uint32{7}, nil},
		{[]uint32{7}, []uint32{7, 0, 0}, nil},
		{[]uint32{7}, []uint32{2, 0, 0}, []uint32{5}},
		{[]uint32{7, 8, 0}, []uint32{7}, []uint32{0, 8}},
		{[]uint32{7, 8}, []uint32{6, 8}, []uint32{1}},
		{[]uint32{0, 1}, []uint32{1}, []uint32{ones}},
		{[]uint32{0, 1}, []uint32{ones}, []uint32{1}},
		{[]uint32{0, 0, 1}, []uint32{1}, []uint32{ones, ones}},
		{[]uint32{0, 0, 1}, []uint32{ones, ones}, []uint32{1}},
		{[]uint32{5, 0, 1}, []uint32{5, ones}, []uint32{0, 1}},
		{[]uint32{0, 5, 1}, []uint32{ones, 4, 1}, []uint32{1}},
		{power(6368), []uint32{1}, full(199)},
		{power(6368), full(199), []uint32{1}},
		{full(200), full(200), nil},
		{zeros(power(6336), 1), zeros([]uint32{1}, 199), full(198)},
	} {
		wantSub(t, c.x, c.y, c.want, true)
	}
}

func TestSubOfAGreaterOne(t *testing.T) {
	for _, c := range []struct{ x, y []uint32 }{
		{nil, []uint32{1}},
		{[]uint32{0, 0, 0}, []uint32{1}},
		{[]uint32{1}, []uint32{2}},
		{[]uint32{ones, 0, 0}, []uint32{0, 1}},
		{[]uint32{ones, 1}, []uint32{0, 2}},
		{[]uint32{4, 9, 9}, []uint32{5, 9, 9}},
		{full(199), power(6368)},
		{zeros(full(199), 1), full(200)},
	} {
		wantSub(t, c.x, c.y, nil, false)
	}
}

func TestCmp(t *testing.T) {
	for _, c := range []struct {
		x, y []uint32
		want int
	}{
		{nil, nil, 0},
		{nil, []uint32{0, 0}, 0},
		{[]uint32{0}, []uint32{0, 0}, 0},
		{nil, []uint32{1}, -1},
		{[]uint32{0, 0}, []uint32{1}, -1},
		{[]uint32{1}, []uint32{1, 0, 0}, 0},
		{[]uint32{1}, []uint32{2}, -1},
		{[]uint32{half - 1}, []uint32{half}, -1},
		{[]uint32{0}, []uint32{ones}, -1},
		{[]uint32{ones}, []uint32{0, 1}, -1},
		{[]uint32{ones, 0, 0}, []uint32{0, 1}, -1},
		{[]uint32{9, 1}, []uint32{0, 2}, -1},
		{[]uint32{5, 1}, []uint32{6, 1}, -1},
		{[]uint32{5, 1, 7}, []uint32{5, 1, 7, 0}, 0},
		{full(199), power(6368), -1},
		{full(200), zeros(full(199), 1), 1},
	} {
		wantCmp(t, c.x, c.y, c.want)
		wantCmp(t, c.y, c.x, -c.want)
	}
}

func TestShl(t *testing.T) {
	for _, c := range []struct {
		x    []uint32
		n    int
		want []uint32
	}{
		{[]uint32{7}, 0, []uint32{7}},
		{[]uint32{7, 0}, 0, []uint32{7}},
		{[]uint32{1}, 1, []uint32{2}},
		{[]uint32{1}, 31, []uint32{half}},
		{[]uint32{1}, 32, []uint32{0, 1}},
		{[]uint32{1, 0, 0}, 64, []uint32{0, 0, 1}},
		{[]uint32{1}, 65, []uint32{0, 0, 2}},
		{[]uint32{half}, 1, []uint32{0, 1}},
		{[]uint32{ones}, 31, []uint32{half, ones >> 1}},
		{[]uint32{0x89ABCDEF, 0x01234567}, 4, []uint32{0x9ABCDEF0, 0x12345678}},
		{[]uint32{0x89ABCDEF, 0x01234567}, 40, []uint32{0, 0xABCDEF00, 0x23456789, 1}},
		{[]uint32{1}, 1000003, power(1000003)},
		{full(200), 6400, append(make([]uint32, 200), full(200)...)},
	} {
		wantShl(t, c.x, c.n, c.want)
		wantShl(t, c.want, -c.n, trimmed(c.x))
	}
}

func TestShlDown(t *testing.T) {
	for _, c := range []struct {
		x    []uint32
		n    int
		want []uint32
	}{
		{[]uint32{5}, -1, []uint32{2}},
		{[]uint32{5}, -2, []uint32{1}},
		{[]uint32{5}, -3, nil},
		{[]uint32{5}, -31, nil},
		{[]uint32{5}, -32, nil},
		{[]uint32{5}, -33, nil},
		{[]uint32{half}, -31, []uint32{1}},
		{[]uint32{5, 1}, -1, []uint32{half + 2}},
		{[]uint32{5, 1}, -32, []uint32{1}},
		{[]uint32{5, 1}, -33, nil},
		{[]uint32{5, 6, 7}, -32, []uint32{6, 7}},
		{[]uint32{5, 6, 7, 0}, -64, []uint32{7}},
		{[]uint32{5, 6, 7}, -65, []uint32{3}},
		{[]uint32{ones, ones, ones}, -95, []uint32{1}},
		{[]uint32{ones, ones, ones}, -96, nil},
		{[]uint32{0x9ABCDEF0, 0x12345678}, -4, []uint32{0x89ABCDEF, 0x01234567}},
		{full(200), -6399, []uint32{1}},
		{full(200), -6400, nil},
	} {
		wantShl(t, c.x, c.n, c.want)
		wantShl(t, zeros(c.x, 2), c.n, c.want)
	}
}

func TestShlFurtherThanTheNumberIsLong(t *testing.T) {
	for _, n := range []int{-6401, -6432, -100000, math.MinInt32, math.MinInt + 1, math.MinInt} {
		for _, x := range [][]uint32{nil, {1}, {ones}, {7, 0, 0}, full(200)} {
			wantShl(t, x, n, nil)
		}
	}
}

// The number 0 stays 0, however far it is shifted.
func TestShlOfZero(t *testing.T) {
	for _, x := range [][]uint32{nil, {}, {0}, make([]uint32, 200)} {
		for _, n := range []int{0, 1, 31, 32, 33, 6400, -1, -32, -33, math.MaxInt32, math.MaxInt - 1, math.MaxInt, math.MinInt} {
			wantShl(t, x, n, nil)
		}
	}
}

func TestDiv(t *testing.T) {
	for _, c := range []struct{ x, y, q, r []uint32 }{
		{[]uint32{17}, []uint32{5}, []uint32{3}, []uint32{2}},
		{[]uint32{17, 0, 0}, []uint32{5, 0}, []uint32{3}, []uint32{2}},
		{nil, []uint32{5}, nil, nil},
		{[]uint32{0, 0, 0}, []uint32{5, 6}, nil, nil},
		{[]uint32{3}, []uint32{5}, nil, []uint32{3}},
		{[]uint32{3, 0, 0}, []uint32{5, 0}, nil, []uint32{3}},
		{[]uint32{ones}, []uint32{0, 1}, nil, []uint32{ones}},
		{[]uint32{4, 9}, []uint32{5, 9}, nil, []uint32{4, 9}},
		{[]uint32{4, 9}, []uint32{5, 9, 1}, nil, []uint32{4, 9}},
		{[]uint32{5, 9}, []uint32{5, 9}, []uint32{1}, nil},
		{[]uint32{5, 9}, []uint32{5, 9, 0, 0, 0}, []uint32{1}, nil},
		{[]uint32{6, 9}, []uint32{5, 9}, []uint32{1}, []uint32{1}},
		{[]uint32{7, 8, 9}, []uint32{1}, []uint32{7, 8, 9}, nil},
		{[]uint32{7, 8, 9}, []uint32{1, 0}, []uint32{7, 8, 9}, nil},
		{[]uint32{7, 8, 9}, []uint32{0, 1}, []uint32{8, 9}, []uint32{7}},
		{[]uint32{0, 0, 0, 1}, []uint32{half}, []uint32{0, 0, 2}, nil},
		{[]uint32{1, 0, 1}, []uint32{0, 1}, []uint32{0, 1}, []uint32{1}},
		{[]uint32{ones, ones}, []uint32{ones}, []uint32{1, 1}, nil},
		{[]uint32{ones, ones - 1}, []uint32{ones}, []uint32{ones}, []uint32{ones - 1}},
		{full(200), full(100), append(append([]uint32{1}, make([]uint32, 99)...), 1), nil},
		{full(199), power(6367), []uint32{1}, append(full(198), half-1)},
		{full(200), []uint32{ones}, slices.Repeat([]uint32{1}, 200), nil},
		{full(200), []uint32{1}, full(200), nil},
		{[]uint32{1}, full(200), nil, []uint32{1}},
	} {
		wantDiv(t, c.x, c.y, c.q, c.r, true)
	}
}

// A guess at an element from the highest elements alone is too great here, by 1
// or by 2: it must be taken back.
func TestDivWhereTheHighestElementsMislead(t *testing.T) {
	for _, c := range []struct{ x, y, q, r []uint32 }{
		{[]uint32{0, 0, 1}, []uint32{1, half}, []uint32{1}, []uint32{ones, half - 1}},
		{[]uint32{half - 1, 0, half}, []uint32{ones - 1, half - 1, half}, nil, []uint32{half - 1, 0, half}},
		{[]uint32{0, 0, half}, []uint32{ones - 1, half}, []uint32{ones - 1}, []uint32{ones - 3, 3}},
		{[]uint32{0, 0, half - 1}, []uint32{ones - 1, half}, []uint32{ones - 3}, []uint32{ones - 7, 5}},
		{[]uint32{0, 0, 0, half - 1}, []uint32{half - 1, ones - 1, half}, []uint32{ones - 3}, []uint32{ones - 3, half - 6, 5}},
	} {
		wantDiv(t, c.x, c.y, c.q, c.r, true)
		wantDiv(t, append([]uint32{0}, c.x...), append([]uint32{0}, c.y...), c.q, trimmed(append([]uint32{0}, c.r...)), true)
	}
}

func TestDivByZero(t *testing.T) {
	for _, y := range [][]uint32{nil, {}, {0}, {0, 0, 0}, make([]uint32, 200)} {
		for _, x := range [][]uint32{nil, {}, {0}, {0, 0}, {5}, {5, 6, 7, 0}, full(200)} {
			wantDiv(t, x, y, nil, nil, false)
		}
	}
}

func TestBits(t *testing.T) {
	for _, c := range []struct {
		x    []uint32
		want int
	}{
		{nil, 0}, {[]uint32{}, 0}, {[]uint32{0}, 0}, {make([]uint32, 200), 0},
		{[]uint32{1}, 1}, {[]uint32{2}, 2}, {[]uint32{3}, 2}, {[]uint32{255, 0}, 8},
		{[]uint32{half - 1}, 31}, {[]uint32{half}, 32}, {[]uint32{ones, 0, 0}, 32},
		{[]uint32{0, 1}, 33}, {[]uint32{ones, ones}, 64}, {full(200), 6400},
	} {
		wantBits(t, c.x, c.want)
	}
	for n := range 6400 - 32 {
		wantBits(t, power(n), n+1)
		wantBits(t, zeros(power(n), 1), n+1)
	}
}

func TestLow(t *testing.T) {
	for _, c := range []struct {
		x    []uint32
		want uint64
	}{
		{nil, 0}, {[]uint32{}, 0}, {[]uint32{0}, 0}, {make([]uint32, 200), 0},
		{[]uint32{9}, 9}, {[]uint32{9, 0}, 9}, {[]uint32{ones}, ones},
		{[]uint32{0, 1}, 1 << 32}, {[]uint32{1, 2, 3}, 2<<32 + 1},
		{[]uint32{0, 0, 1}, 0}, {[]uint32{ones, ones}, math.MaxUint64},
		{[]uint32{0x89ABCDEF, 0x01234567, ones, ones}, 0x0123456789ABCDEF},
		{full(200), math.MaxUint64},
	} {
		wantLow(t, c.x, c.want)
	}
}

// With the library's numbers, for every function of two numbers.
func TestPairs(t *testing.T) {
	all := samples()
	for _, x := range all {
		for _, y := range all {
			a, b := plain(x), plain(y)
			wantMul(t, x, y, elements(new(natural.Int).Mul(a, b)))
			wantAdd(t, x, y, elements(new(natural.Int).Add(a, b)))
			wantCmp(t, x, y, a.Cmp(b))
			if a.Cmp(b) < 0 {
				wantSub(t, x, y, nil, false)
			} else {
				wantSub(t, x, y, elements(new(natural.Int).Sub(a, b)), true)
			}
			if b.Sign() == 0 {
				wantDiv(t, x, y, nil, nil, false)
			} else {
				q, r := new(natural.Int).QuoRem(a, b, new(natural.Int))
				wantDiv(t, x, y, elements(q), elements(r), true)
			}
		}
	}
}

func TestSingles(t *testing.T) {
	for _, x := range samples() {
		a := plain(x)
		wantBits(t, x, a.BitLen())
		wantLow(t, x, new(natural.Int).And(a, plain(full(2))).Uint64())
		for n := range 99 {
			wantShl(t, x, n, elements(new(natural.Int).Lsh(a, uint(n))))
			wantShl(t, x, -n, elements(new(natural.Int).Rsh(a, uint(n))))
		}
		for _, n := range []int{959, 960, 961, 3168, 6335, 6336, 6367, 6368, 6369, 6399, 6400, 6401, 20000} {
			wantShl(t, x, n, elements(new(natural.Int).Lsh(a, uint(n))))
			wantShl(t, x, -n, elements(new(natural.Int).Rsh(a, uint(n))))
		}
	}
}

// words returns all numbers of n elements out of a few that lie at the edges.
func words(n int) [][]uint32 {
	all := [][]uint32{nil}
	for range n {
		var longer [][]uint32
		for _, x := range all {
			for _, v := range []uint32{0, 1, half - 1, half, ones - 1, ones} {
				longer = append(longer, append(slices.Clone(x), v))
			}
		}
		all = longer
	}
	return all
}

// The quotient times the divisor, plus the remainder, is the dividend; and the
// remainder is less than the divisor, so that there is one answer only.
func wantDivided(t *testing.T, x, y []uint32) {
	t.Helper()
	q, r, ok := big.Div(x, y)
	if zero := plain(y).Sign() == 0; zero || !ok {
		if !zero || ok {
			t.Errorf("Div: %t, of %s by %s", ok, brief(x), brief(y))
		}
		return
	}
	if big.Cmp(big.Add(big.Mul(q, y), r), x) != 0 || big.Cmp(r, y) >= 0 {
		t.Errorf("Div: %s and %s, of %s by %s", brief(q), brief(r), brief(x), brief(y))
	}
}

func TestDivOfEachAtTheEdges(t *testing.T) {
	dividends := words(4)
	for n := range 4 {
		for _, y := range words(n) {
			for _, x := range dividends {
				wantDivided(t, x, y)
			}
		}
	}
}

func TestDivOfLongOnes(t *testing.T) {
	edges := words(2)
	for n := 1; n <= 200; n += 3 {
		for m := 1; m <= n; m += 7 {
			x, y := noise(n, uint32(n*m)), noise(m, uint32(n+m))
			wantDivided(t, x, y)
			// High elements at the edges, so that guesses from them go wrong.
			copy(x[max(n-2, 0):], edges[n*m%len(edges)])
			copy(y[max(m-2, 0):], edges[(n+m)%len(edges)])
			wantDivided(t, x, y)
		}
	}
}

func TestMulUndoneByDiv(t *testing.T) {
	for _, x := range samples() {
		for _, y := range samples() {
			if len(x) > 100 || len(y) > 100 || plain(y).Sign() == 0 {
				continue
			}
			product := big.Mul(x, y)
			wantDiv(t, product, y, trimmed(x), nil, true)
			if less, ok := big.Sub(product, []uint32{1}); ok {
				wantDivided(t, less, y)
			}
		}
	}
}

// One slice may stand for both numbers.
func TestOneSliceTwice(t *testing.T) {
	for _, x := range samples() {
		b, a := roomy(x), plain(x)
		if g := big.Mul(b, b); !slices.Equal(g, elements(new(natural.Int).Mul(a, a))) {
			t.Errorf("Mul: %s of %s", brief(g), brief(x))
		}
		if g := big.Add(b, b); !slices.Equal(g, elements(new(natural.Int).Lsh(a, 1))) {
			t.Errorf("Add: %s of %s", brief(g), brief(x))
		}
		if g, ok := big.Sub(b, b); len(g) != 0 || !ok {
			t.Errorf("Sub: %s %t of %s", brief(g), ok, brief(x))
		}
		if big.Cmp(b, b) != 0 {
			t.Errorf("Cmp of %s", brief(x))
		}
		if q, r, ok := big.Div(b, b); ok && (!slices.Equal(q, []uint32{1}) || len(r) != 0) || ok != (a.Sign() > 0) {
			t.Errorf("Div: %s %s %t of %s", brief(q), brief(r), ok, brief(x))
		}
		if !untouched(b, x) {
			t.Errorf("an argument is changed: %s", brief(x))
		}
	}
}

// R1: beyond the limits, every call ends all the same.
func TestBeyondTheLimits(t *testing.T) {
	for _, n := range []int{1001, 1024, 1 << 20, math.MaxInt32, math.MaxInt} {
		big.Ten(n)
	}
	for _, n := range []int{math.MaxInt >> 1, math.MaxInt - 31, math.MaxInt - 1, math.MaxInt} {
		for _, x := range [][]uint32{{1}, {ones, 0}, full(200), full(5000)} {
			big.Shl(x, n)
		}
	}
	x, y := full(5000), noise(2000, 9)
	for _, p := range [][2][]uint32{{x, y}, {y, x}, {x, nil}, {nil, x}, {x, make([]uint32, 5000)}} {
		big.Mul(p[0], p[1])
		big.Add(p[0], p[1])
		big.Sub(p[0], p[1])
		big.Cmp(p[0], p[1])
		big.Div(p[0], p[1])
		big.Shl(p[0], -100000)
		big.Bits(p[0])
		big.Low(p[0])
	}
}
