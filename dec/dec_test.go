package dec_test

import (
	"math"
	"math/big"
	"regexp"
	"strconv"
	"strings"
	"testing"

	"assayer/api"
	"assayer/dec"
)

const (
	minus    = 1 << 63
	one      = 0x3FF << 52
	normal   = 1 << 52 // the least number with all its bits
	infinity = 0x7FF << 52
	greatest = infinity - 1
	ones     = normal - 1 // all bits below the exponent
)

var (
	half   = big.NewRat(1, 2)
	syntax = regexp.MustCompile(`^([+-]?)(?:([0-9]+)|([0-9]*)\.([0-9]+))(?:[eE]([+-]?[0-9]+))?$`)
)

// power returns base to the power n, which may be negative.
func power(base int64, n int) *big.Rat {
	size := new(big.Int).Exp(big.NewInt(base), big.NewInt(int64(max(n, -n))), nil)
	if n < 0 {
		return new(big.Rat).SetFrac(big.NewInt(1), size)
	}
	return new(big.Rat).SetInt(size)
}

// natural returns the number of a text of digits, or of a sign and digits.
func natural(s string) *big.Int {
	v, _ := new(big.Int).SetString(s, 10)
	return v
}

// exact returns the number of a binary64 without a sign; for infinity's bits, the
// one that would follow on the greatest.
func exact(bits uint64) *big.Rat {
	m, n := bits%normal, int(bits/normal)
	if n > 0 {
		m, n = m+normal, n-1
	}
	v := new(big.Rat).SetInt(new(big.Int).SetUint64(m))
	return v.Mul(v, power(2, n-1074))
}

// middle returns the number between a binary64 and the next.
func middle(bits uint64) *big.Rat {
	v := new(big.Rat).Add(exact(bits), exact(bits+1))
	return v.Mul(v, half)
}

// plainNearest is the document's own words: it seeks the greatest binary64 not
// above v, and holds v against the middle between that and the next. The library's
// guess only tells where to seek.
func plainNearest(v *big.Rat) uint64 {
	guess, _ := v.Float64()
	bits := math.Float64bits(guess)
	for exact(bits).Cmp(v) > 0 {
		bits--
	}
	for bits < infinity && exact(bits+1).Cmp(v) <= 0 {
		bits++
	}
	if bits == infinity {
		return bits
	}
	switch c := v.Cmp(middle(bits)); {
	case c > 0, c == 0 && bits%2 == 1:
		return bits + 1
	}
	return bits
}

// plainParse is the document's own words, with the library's numbers.
func plainParse(s string) (uint64, api.Errno) {
	parts := syntax.FindStringSubmatch(s)
	if parts == nil {
		return 0, api.ErrForm
	}
	digits := parts[2] + parts[3] + parts[4]
	if len(digits) > api.MaxDigits {
		return 0, api.ErrLong
	}
	exponent := natural("0")
	if parts[5] != "" {
		exponent = natural(parts[5])
	}
	if exponent.CmpAbs(big.NewInt(api.MaxExp)) > 0 {
		return 0, api.ErrRange
	}
	v := new(big.Rat).SetInt(natural(digits))
	v.Mul(v, power(10, int(exponent.Int64())-len(parts[4])))
	bits := plainNearest(v)
	if bits == infinity {
		return 0, api.ErrRange
	}
	if parts[1] == "-" {
		bits += minus
	}
	return bits, api.OK
}

// log10 returns the greatest n for which 10^n is not above v, which is not 0.
func log10(v *big.Rat) int {
	n := (v.Num().BitLen() - v.Denom().BitLen()) * 3 / 10
	for power(10, n).Cmp(v) > 0 {
		n--
	}
	for power(10, n+1).Cmp(v) <= 0 {
		n++
	}
	return n
}

// cut returns the number of v's first so many digits, how many units of its last
// one are left then, and the power of 10 of such a unit.
func cut(v *big.Rat, digits int) (whole *big.Int, rest *big.Rat, unit int) {
	unit = log10(v) - digits + 1
	units := new(big.Rat).Quo(v, power(10, unit))
	whole = new(big.Int).Quo(units.Num(), units.Denom())
	return whole, units.Sub(units, new(big.Rat).SetInt(whole)), unit
}

// plainShow is the document's own words, with the library's numbers.
func plainShow(bits uint64) string {
	sign := ""
	if bits >= minus {
		sign, bits = "-", bits-minus
	}
	if bits >= infinity {
		return ""
	}
	if bits == 0 {
		return sign + "0.0e0"
	}
	n, rest, unit := cut(exact(bits), 17)
	switch c := rest.Cmp(half); {
	case c > 0, c == 0 && n.Bit(0) == 1:
		n.Add(n, big.NewInt(1))
	}
	digits := n.String()
	tail := strings.TrimRight(digits[1:], "0")
	if tail == "" {
		tail = "0"
	}
	return sign + digits[:1] + "." + tail + "e" + strconv.Itoa(unit+len(digits)-1)
}

// wantParse checks what Parse answers, twice.
func wantParse(t *testing.T, s string, want uint64, wantE api.Errno) {
	t.Helper()
	for range 2 {
		if v, e := dec.Parse(s); v != want || e != wantE {
			t.Errorf("Parse(%.200s): %#x %d, want %#x %d", s, v, e, want, wantE)
		}
	}
}

// wantSigned checks what Parse answers to s without a sign and with each.
func wantSigned(t *testing.T, s string, want uint64, wantE api.Errno) {
	t.Helper()
	wantParse(t, s, want, wantE)
	wantParse(t, "+"+s, want, wantE)
	if wantE == api.OK {
		want += minus
	}
	wantParse(t, "-"+s, want, wantE)
}

// wantBits checks what Parse answers to s and to -s: infinity's bits are ErrRange.
func wantBits(t *testing.T, s string, want uint64) {
	t.Helper()
	e := api.OK
	if want == infinity {
		want, e = 0, api.ErrRange
	}
	if v, ge := dec.Parse(s); v != want || ge != e {
		t.Errorf("Parse(%s): %#x %d, want %#x %d", s, v, ge, want, e)
	}
	if e == api.OK {
		want += minus
	}
	if v, ge := dec.Parse("-" + s); v != want || ge != e {
		t.Errorf("Parse(-%s): %#x %d, want %#x %d", s, v, ge, want, e)
	}
}

// wantShow checks what Show answers, twice.
func wantShow(t *testing.T, bits uint64, want string) {
	t.Helper()
	for range 2 {
		if s := dec.Show(bits); s != want {
			t.Errorf("Show(%#x): %q, want %q", bits, s, want)
		}
	}
}

// wantInt checks what Int answers, twice.
func wantInt(t *testing.T, v int64, want uint64) {
	t.Helper()
	for range 2 {
		if g := dec.Int(v); g != want {
			t.Errorf("Int(%d): %#x, want %#x", v, g, want)
		}
	}
}

// text returns a number of digits and an exponent.
func text(digits *big.Int, exponent int) string {
	return digits.String() + "e" + strconv.Itoa(exponent)
}

// mantissas returns bits below an exponent: few and many, and some by a rule.
func mantissas(seed uint64) []uint64 {
	all := []uint64{0, 1, 2, ones / 2, ones/2 + 1, ones - 1, ones}
	for range 3 {
		seed = seed*6364136223846793005 + 1442695040888963407
		all = append(all, seed>>12)
	}
	return all
}

// finites returns numbers without a sign, of each exponent.
func finites() []uint64 {
	var all []uint64
	for n := range uint64(0x7FF) {
		for _, m := range mantissas(n) {
			all = append(all, n<<52+m)
		}
	}
	for bit := range 52 {
		p := uint64(1) << bit
		all = append(all, p-1, p, p+1, 3*p, ones-p)
	}
	return all
}

// P4.1

func TestParse(t *testing.T) {
	for s, want := range map[string]uint64{
		"1": one, "1.0": one, "1e0": one, "1E0": one, "10e-1": one, ".1e1": one, "0.01e+2": one,
		"2": 0x4000000000000000, "1.5": 0x3FF8000000000000, ".5": 0x3FE0000000000000,
		"5E-1": 0x3FE0000000000000, "10": 0x4024000000000000, "1e3": 0x408F400000000000,
		"0.1": 0x3FB999999999999A, "3.14159": 0x400921F9F01B866E, "1e23": 0x44B52D02C7E14AF6,
		"123456789012345678901234567890": 0x45F8EE90FF6C373E,
	} {
		wantSigned(t, s, want, api.OK)
	}
}

func TestParseOfZerosHasTheirSign(t *testing.T) {
	for _, s := range []string{"0", "00", "0.0", ".0", "0e0", "0.0e400", "0e400", "0e-400", ".000E-400", "1e-400", "2e-324", strings.Repeat("0", 60)} {
		wantParse(t, s, 0, api.OK)
		wantParse(t, "+"+s, 0, api.OK)
		wantParse(t, "-"+s, minus, api.OK)
	}
}

func TestParseWithNoughtsAheadAndBehind(t *testing.T) {
	for _, s := range []string{"01.5", "0001.5", "1.50", "1.5000", "001.500", "1.5e0", "1.5e00", "1.5e-000", "015e-1", "150e-0002", ".0015e+3", ".0015e+0003", "00.0015E003"} {
		wantSigned(t, s, 0x3FF8000000000000, api.OK)
	}
	noughts := strings.Repeat("0", 2000)
	wantSigned(t, "1e"+noughts, one, api.OK)
	wantSigned(t, "1e-"+noughts, one, api.OK)
	wantSigned(t, "10e-"+noughts+"1", one, api.OK)
	wantSigned(t, "0e"+noughts+"400", 0, api.OK)
	wantSigned(t, "0e"+noughts+"401", 0, api.ErrRange)
}

func TestParseBetweenTwo(t *testing.T) {
	for s, want := range map[string]uint64{
		"9007199254740993":     0x4340000000000000,
		"9007199254740995":     0x4340000000000002,
		"9007199254740992.999": 0x4340000000000000,
		"9007199254740993.00000000000000000000000000000000000000000001": 0x4340000000000001,
		"9007199254740994.99999999999999999999999999999999999999999999": 0x4340000000000001,
		"9007199254740995.00000000000000000000000000000000000000000001": 0x4340000000000002,
		"1.00000000000000011102230246251565404236316680908203125":       one,
		"1.00000000000000011102230246251565404236316680908203124":       one,
		"1.000000000000000111022302462515654042363166809082031251":      one + 1,
		"1.00000000000000033306690738754696212708950042724609375":       one + 2,
		"1.000000000000000333066907387546962127089500427246093749":      one + 1,
		"1.00000000000000033306690738754696212708950042724609376":       one + 2,
		// Rounded up to the next power of 2.
		"18014398509481983":   0x4350000000000000,
		"18014398509481982.9": 0x434FFFFFFFFFFFFF,
		"1.99999999999999988897769753748434595763683319091796875": 0x4000000000000000,
		"1.99999999999999988897769753748434595763683319091796874": 0x3FFFFFFFFFFFFFFF,
	} {
		wantSigned(t, s, want, api.OK)
	}
}

func TestParseOfTheLeast(t *testing.T) {
	for s, want := range map[string]uint64{
		"4.9e-324": 1, "5e-324": 1, "4.9406564584124654e-324": 1,
		"2.4703282292062327e-324": 0, "2.4703282292062328e-324": 1,
		"2.47032822920623272088284396434110686182529901307162382212792e-324": 0,
		"2.47032822920623272088284396434110686182529901307162382212793e-324": 1,
		"7.41098468761869816264853189302332058547589703921487146638378e-324": 1,
		"7.41098468761869816264853189302332058547589703921487146638379e-324": 2,
		"9.9e-324": 2, "1.2e-323": 2, "1.5e-323": 3,
		"2.2250738585072009e-308": ones, "2.2250738585072014e-308": normal, "2.2250738585072019e-308": normal + 1,
		"2.22507385850720113605740979670913197593481954635164564802342e-308": ones,
		"2.22507385850720113605740979670913197593481954635164564802343e-308": normal,
	} {
		wantSigned(t, s, want, api.OK)
	}
}

func TestParseOfTheGreatest(t *testing.T) {
	for _, s := range []string{
		"1.7976931348623157e308", "1.7976931348623158e308", "17976931348623157e292",
		"1.79769313486231580793728971405303415079934132710037826936173e308",
		".179769313486231580793728971405303415079934132710037826936173e309",
	} {
		wantSigned(t, s, greatest, api.OK)
	}
	for _, s := range []string{
		"1.7976931348623159e308", "1e309", "2e308", "1e400", "1.0e400",
		"1.79769313486231580793728971405303415079934132710037826936174e308",
		".000000000000000000000000000000000000000000000000000000000001e400",
		strings.Repeat("9", 60) + "e249", strings.Repeat("9", 60) + "e400",
	} {
		wantSigned(t, s, 0, api.ErrRange)
	}
}

func TestParseOfManyDigits(t *testing.T) {
	noughts, nines := strings.Repeat("0", api.MaxDigits-1), strings.Repeat("9", api.MaxDigits)
	for s, want := range map[string]uint64{
		noughts + "0": 0, noughts + ".0": 0, noughts + "1": one, noughts[1:] + "1.0": one,
		"." + noughts + "1e60": one, "1." + noughts: one, "1" + noughts + "e-59": one,
		"." + nines: one, nines + "e-60": one, "9." + nines[1:]: 0x4024000000000000,
		nines + "e-382": 20, nines + "e-383": 2, nines + "e-384": 0,
		nines + "e-0000000060": one, // no digits of an exponent count
	} {
		wantSigned(t, s, want, api.OK)
	}
	for _, s := range []string{
		noughts + "00", noughts + "0.0", "0." + noughts + "0", "." + noughts + "01", noughts + "01",
		nines + "9", nines + ".9", "9." + nines, "." + nines + "9", "0." + nines, nines + "9e-60", nines + "9E5",
	} {
		wantSigned(t, s, 0, api.ErrLong)
	}
}

func TestParseOfGreatExponents(t *testing.T) {
	for _, s := range []string{
		"0e401", "0e-401", "1e401", "1e-401", "0.0E+401", "1e999", "1e1000", "0e4000", "0e-4000",
		"0e65936", "0e2147483648", "0e4294967296", "0e4294967297", "0e9223372036854775807",
		"0e9223372036854775808", "0e18446744073709551616", "0e-18446744073709551617",
		"1e99999999999999999999", "1e-99999999999999999999", "0e" + strings.Repeat("9", 2000),
		".000000000000000000000000000000000000000000000000000000000001e401",
		strings.Repeat("9", 60) + "e-401",
	} {
		wantSigned(t, s, 0, api.ErrRange)
	}
}

func TestParseOfWhatIsNoNumber(t *testing.T) {
	for _, s := range []string{
		"", "+", "-", ".", "+.", "-.", "1.", "-1.", "1.e5", ".e5", "e5", "+e5", "E", "e", "e+1",
		"1e", "1E", "1e+", "1e-", "1.5e", ".5e-", "1e1.5", "1e.5", "1e5.", "1e1e1", "1ee1", "1e+-1", "1e--1", "1e 5",
		"--1", "++1", "+-1", "-+1", "1-", "1+", "1-1", "- 1", "1.+5", "1.-5", ".-5", "-.-5",
		"1.2.3", "1..2", "..1", "1,5", "1_000", "1 000", "1'000",
		" ", " 1", "1 ", "\t1", "1\n", "1\r\n", "1\x00", "\x001", "1e5 ", "1e5x", "1x", "x1", "0x1", "0X1p3", "1p3", "1f", "1d", "1E5f",
		"inf", "Inf", "-inf", "nan", "NaN", "infinity", "one", "/", ":", "1/2", "1:2", "1e/", "1e:", "./", ".:",
		"\u0661", "1\u0661", "\uFF11", "1\uFF0E5", "\u22121", "1\u2013", "1e\u22121", "\xFF", "1\xFF", "1\xB0", "\xB1",
	} {
		wantParse(t, s, 0, api.ErrForm)
	}
}

func TestParseTellsTheFirstError(t *testing.T) {
	long := strings.Repeat("1", api.MaxDigits+1)
	for s, want := range map[string]api.Errno{
		long + "x": api.ErrForm, long + ".": api.ErrForm, long + "e": api.ErrForm, "-" + long + "e+": api.ErrForm,
		long + "e999x": api.ErrForm, "1e999x": api.ErrForm, "1e401.": api.ErrForm, "1e309 ": api.ErrForm, "+ 1e999": api.ErrForm,
		long + "e999": api.ErrLong, "-" + long + "e-999": api.ErrLong, "0." + long + "e401": api.ErrLong,
		long + "e400": api.ErrLong, long + "." + long + "E99999999999999999999": api.ErrLong,
		"1e401": api.ErrRange, "1e400": api.ErrRange,
	} {
		wantParse(t, s, 0, want)
	}
}

// All texts of up to so many of these letters.
func TestParseOfAllShortTexts(t *testing.T) {
	texts := []string{""}
	for range 6 {
		var longer []string
		for _, s := range texts {
			v, e := plainParse(s)
			if g, ge := dec.Parse(s); g != v || ge != e {
				t.Errorf("Parse(%q): %#x %d, want %#x %d", s, g, ge, v, e)
			}
			for _, c := range "019.+-eE " {
				longer = append(longer, s+string(c))
			}
		}
		texts = longer
	}
}

// What lies in the middle between two numbers, or so little below and above it as
// MaxDigits allow.
func TestParseBetweenAnyTwo(t *testing.T) {
	ties := 0
	for _, bits := range finites() {
		below, rest, unit := cut(middle(bits), api.MaxDigits)
		above := new(big.Int).Add(below, big.NewInt(1))
		if rest.Sign() == 0 {
			ties++
			wantBits(t, text(below, unit), bits+bits%2)
			below = new(big.Int).Sub(below, big.NewInt(1))
		}
		wantBits(t, text(below, unit), bits)
		wantBits(t, text(above, unit), bits+1)
	}
	if ties < 100 {
		t.Errorf("%d texts are in the middle", ties)
	}
}

// Digits by a rule, of each number, with each exponent.
func TestParseOfAnyNumber(t *testing.T) {
	seed := uint64(88172645463325252)
	next := func(n int) int {
		seed ^= seed << 13
		seed ^= seed >> 7
		seed ^= seed << 17
		return int(seed >> 11 % uint64(n))
	}
	for exponent := -api.MaxExp - 2; exponent <= api.MaxExp+2; exponent++ {
		for range 12 {
			n := 1 + next(api.MaxDigits)
			var digits []byte
			for range n {
				digits = append(digits, '0'+byte(next(10)))
			}
			stop := next(n)
			s := string(digits[:stop]) + "." + string(digits[stop:]) + "e" + strconv.Itoa(exponent)
			v, e := plainParse(s)
			wantSigned(t, s, v, e)
		}
	}
}

// P4.2

func TestShow(t *testing.T) {
	for bits, want := range map[uint64]string{
		one: "1.0e0", 0x4000000000000000: "2.0e0", 0x3FE0000000000000: "5.0e-1", 0x3FF8000000000000: "1.5e0",
		0x4024000000000000: "1.0e1", 0x4059000000000000: "1.0e2", 0x40FE240C9FBE76C9: "1.23456789e5",
		0x3FB999999999999A: "1.0000000000000001e-1", 0x3F50624DD2F1A9FC: "1.0e-3", 0x3FD5555555555555: "3.3333333333333331e-1",
		0x400921FB54442D18: "3.1415926535897931e0", 0x44B52D02C7E14AF6: "9.9999999999999992e22", 0x444B1AE4D6E2EF50: "1.0e21",
		0x4340000000000000: "9.007199254740992e15", 0x433FFFFFFFFFFFFF: "9.007199254740991e15",
		1: "4.9406564584124654e-324", 2: "9.8813129168249309e-324", ones: "2.2250738585072009e-308",
		normal: "2.2250738585072014e-308", greatest: "1.7976931348623157e308",
	} {
		wantShow(t, bits, want)
		wantShow(t, bits+minus, "-"+want)
	}
}

func TestShowOfZeros(t *testing.T) {
	wantShow(t, 0, "0.0e0")
	wantShow(t, minus, "-0.0e0")
}

func TestShowOfWhatIsNoNumber(t *testing.T) {
	for _, bits := range []uint64{infinity, infinity + 1, infinity + normal/2, infinity + ones/2, minus - 1} {
		wantShow(t, bits, "")
		wantShow(t, bits+minus, "")
	}
}

// Eighteen digits, of which the last is 5: two numbers of seventeen are equally near.
func TestShowBetweenTwo(t *testing.T) {
	for bits, want := range map[uint64]string{
		0x3E60000000000000: "2.9802322387695312e-8",
		0x3E78000000000000: "8.9406967163085938e-8",
		0x4310000000000001: "1.1258999068426242e15",
		0x4310000000000003: "1.1258999068426248e15",
	} {
		wantShow(t, bits, want)
		wantShow(t, bits+minus, "-"+want)
	}
}

// Seventeen digits 9, and more behind them, come so near to a power of 10.
func TestShowRoundedUpToAPowerOfTen(t *testing.T) {
	for bits, want := range map[uint64]string{
		0x009C16C5C5253575: "1.0e-305", 0x0D7B4FEB7EB212CD: "1.0e-243", 0x1BCFA885C8D117A6: "1.0e-174",
		0x3D06849B86A12B9B: "1.0e-14", 0x5447688BB5394C25: "1.0e98", 0x6D9C5416BB92E3E6: "1.0e220",
	} {
		wantShow(t, bits, want)
		wantShow(t, bits+minus, "-"+want)
	}
}

func TestShowOfAnyNumber(t *testing.T) {
	for _, bits := range finites() {
		want := plainShow(bits)
		if s := dec.Show(bits); s != want {
			t.Errorf("Show(%#x): %s, want %s", bits, s, want)
		}
		if s := dec.Show(bits + minus); s != "-"+want {
			t.Errorf("Show(%#x): %s, want -%s", bits+minus, s, want)
		}
	}
}

func TestShowOfPowersOfTen(t *testing.T) {
	for n := -323; n <= 308; n++ {
		bits, e := dec.Parse("1e" + strconv.Itoa(n))
		if e != api.OK {
			t.Errorf("Parse(1e%d): %d", n, e)
		}
		for _, b := range []uint64{bits - 1, bits, bits + 1} {
			wantShow(t, b, plainShow(b))
		}
	}
}

func TestInt(t *testing.T) {
	for v, want := range map[int64]uint64{
		0: 0, 1: one, 2: 0x4000000000000000, 3: 0x4008000000000000, 10: 0x4024000000000000, 1000000: 0x412E848000000000,
		1 << 32: 0x41F0000000000000, math.MaxInt32: 0x41DFFFFFFFC00000,
		1<<53 - 1: 0x433FFFFFFFFFFFFF, 1 << 53: 0x4340000000000000,
		// Of more than 53 bits.
		1<<53 + 1: 0x4340000000000000, 1<<53 + 2: 0x4340000000000001, 1<<53 + 3: 0x4340000000000002,
		1<<54 - 1: 0x4350000000000000, 1<<54 + 2: 0x4350000000000000, 1<<54 + 3: 0x4350000000000001, 1<<54 + 6: 0x4350000000000002,
		1<<60 + 128: 0x43B0000000000000, 1<<60 + 129: 0x43B0000000000001, 1<<60 + 383: 0x43B0000000000001, 1<<60 + 384: 0x43B0000000000002,
		math.MaxInt64 - 512: 0x43DFFFFFFFFFFFFF, math.MaxInt64 - 511: 0x43E0000000000000, math.MaxInt64: 0x43E0000000000000,
	} {
		wantInt(t, v, want)
		if v != 0 {
			wantInt(t, -v, want+minus)
		}
	}
	wantInt(t, math.MinInt64, 0xC3E0000000000000)
	wantInt(t, math.MinInt64+1, 0xC3E0000000000000)
	wantInt(t, math.MinInt64+512, 0xC3E0000000000000)
	wantInt(t, math.MinInt64+513, 0xC3DFFFFFFFFFFFFF)
}

func TestIntOfAnyNumber(t *testing.T) {
	for low := range 63 {
		for high := low; high < 63; high++ {
			for _, d := range []int64{-2, -1, 0, 1, 2} {
				v := int64(1)<<high + int64(1)<<low + d
				size, sign := new(big.Int).SetInt64(v), uint64(0)
				if v < 0 { // of 2^62 + 2^62, wrapped round
					size, sign = size.Neg(size), minus
				}
				wantInt(t, v, sign+plainNearest(new(big.Rat).SetInt(size)))
			}
		}
	}
}

// The same number, told as a text.
func TestIntIsParseOfItsText(t *testing.T) {
	for seed := range uint64(500) {
		for _, m := range mantissas(seed) {
			v := int64(m << (seed % 12))
			for _, v := range []int64{v, -v, ^v} {
				bits, e := dec.Parse(strconv.FormatInt(v, 10))
				if g := dec.Int(v); g != bits || e != api.OK {
					t.Errorf("Int(%d): %#x, but Parse: %#x %d", v, g, bits, e)
				}
			}
		}
	}
}

// What follows: Parse of Show(bits) returns bits.
func TestParseOfShow(t *testing.T) {
	for _, bits := range finites() {
		for _, b := range []uint64{bits, bits + minus} {
			if v, e := dec.Parse(dec.Show(b)); v != b || e != api.OK {
				t.Errorf("Parse of Show(%#x): %#x %d", b, v, e)
			}
		}
	}
}

// R1: every call ends, and soon, however long the text.
func TestParseOfLongTexts(t *testing.T) {
	n := 1 << 22
	digits := strings.Repeat("7", n)
	for s, want := range map[string]api.Errno{
		digits: api.ErrLong, "-." + digits: api.ErrLong, digits + "." + digits: api.ErrLong, digits + "e5": api.ErrLong,
		"1e" + digits: api.ErrRange, "0e-" + digits: api.ErrRange,
		strings.Repeat("-", n): api.ErrForm, strings.Repeat(".", n): api.ErrForm, strings.Repeat("1e", n): api.ErrForm,
		digits + " ": api.ErrForm, strings.Repeat("\x00", n): api.ErrForm, "1e" + digits + ".": api.ErrForm,
	} {
		wantParse(t, s, 0, want)
	}
}
