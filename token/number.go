package token

import (
	"math"
	"strings"

	"assayer/api"
	"assayer/dec"
)

const (
	hexMark     = "0x"
	maxHexCount = 16 // digits behind the mark
)

func isNumber(t api.Token) bool { return t.Kind == api.TokInt || t.Kind == api.TokDouble }

// goesOn tells whether s, which is behind a number, begins with what may not stand
// there: a number leaves no digit behind it.
func goesOn(s string) bool { return s != "" && isOfName(s[0]) }

// number returns the TokInt or TokDouble that s begins with, and its length.
func number(s string) (t api.Token, n int, e api.Errno) {
	if n = hexLength(s); n > 0 {
		v, e := hexValue(s[len(hexMark):n])
		return api.Token{Kind: api.TokInt, N: v}, n, e
	}
	n = decimalLength(s)
	if n == 0 {
		return t, 0, api.ErrForm
	}
	s = s[:n]
	if isWhole(s) {
		v, e := wholeValue(s)
		return api.Token{Kind: api.TokInt, N: v}, n, e
	}
	bits, e := dec.Parse(s)
	return api.Token{Kind: api.TokDouble, D: bits}, n, e
}

// hexLength returns the length of the 0x and digits that s begins with, or 0.
func hexLength(s string) int {
	digits, ok := strings.CutPrefix(s, hexMark)
	n := span(digits, isHexDigit)
	if !ok || n == 0 {
		return 0
	}
	return len(hexMark) + n
}

// decimalLength returns the length of the longest text ahead in s that has the
// syntax of dec.Parse, or 0.
func decimalLength(s string) int {
	n := signLength(s)
	digits := span(s[n:], isDigit)
	digits += fractionLength(s[n+digits:])
	if digits == 0 {
		return 0
	}
	n += digits
	return n + exponentLength(s[n:])
}

// signLength returns the length of the + or - that s begins with, or 0.
func signLength(s string) int {
	if s != "" && (s[0] == '+' || s[0] == '-') {
		return 1
	}
	return 0
}

// fractionLength returns the length of the full stop and digits that s begins
// with, or 0.
func fractionLength(s string) int {
	digits, ok := strings.CutPrefix(s, ".")
	n := span(digits, isDigit)
	if !ok || n == 0 {
		return 0
	}
	return 1 + n
}

// exponentLength returns the length of the e, perhaps a sign, and digits that s
// begins with, or 0.
func exponentLength(s string) int {
	if s == "" || s[0] != 'e' && s[0] != 'E' {
		return 0
	}
	mark := 1 + signLength(s[1:])
	n := span(s[mark:], isDigit)
	if n == 0 {
		return 0
	}
	return mark + n
}

// isWhole tells whether s, a number, has only digits after the sign.
func isWhole(s string) bool {
	sign := signLength(s)
	return sign+span(s[sign:], isDigit) == len(s)
}

// wholeValue returns the value of a number of digits and perhaps a sign.
func wholeValue(s string) (v int64, e api.Errno) {
	digits := s[signLength(s):]
	if len(digits) > api.MaxDigits {
		return 0, api.ErrLong
	}
	negative, limit := s[0] == '-', uint64(math.MaxInt64)
	if negative {
		limit++
	}
	size, ok := natural(digits, 10, limit)
	if !ok {
		return 0, api.ErrRange
	}
	if negative {
		// The size of the least int64 is its own opposite, wrapped round, and
		// has its bits.
		size = -size
	}
	return int64(size), api.OK
}

// hexValue returns the value of hexadecimal digits.
func hexValue(digits string) (v int64, e api.Errno) {
	if len(digits) > maxHexCount {
		return 0, api.ErrLong
	}
	size, ok := natural(digits, 16, math.MaxInt64)
	if !ok {
		return 0, api.ErrRange
	}
	return int64(size), api.OK
}

// natural returns the number of the digits, of that base; and false if it is above
// the limit.
func natural(digits string, base, limit uint64) (v uint64, ok bool) {
	for i := range len(digits) {
		d := digitValue(digits[i])
		// Asked ahead: base*v + d may be beyond 64 bits.
		if v > (limit-d)/base {
			return 0, false
		}
		v = base*v + d
	}
	return v, true
}

// digitValue returns the value of a digit, hexadecimal or not.
func digitValue(b byte) uint64 {
	switch {
	case 'a' <= b && b <= 'f':
		return uint64(b-'a') + 10
	case 'A' <= b && b <= 'F':
		return uint64(b-'A') + 10
	}
	return uint64(b - '0')
}

func isHexDigit(b byte) bool {
	return isDigit(b) || 'a' <= b && b <= 'f' || 'A' <= b && b <= 'F'
}
