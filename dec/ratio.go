package dec

import "assayer/big"

// ratio is a natural number over one that is not 0.
type ratio struct{ over, under []uint32 }

// timesTwo returns x times 2^n.
func (x ratio) timesTwo(n int) ratio {
	if n < 0 {
		return ratio{x.over, big.Shl(x.under, -n)}
	}
	return ratio{big.Shl(x.over, n), x.under}
}

// timesTen returns x times 10^n.
func (x ratio) timesTen(n int) ratio {
	if n < 0 {
		return ratio{x.over, big.Mul(x.under, big.Ten(-n))}
	}
	return ratio{big.Mul(x.over, big.Ten(n)), x.under}
}

// below1 tells whether x is less than 1.
func (x ratio) below1() bool { return big.Cmp(x.over, x.under) < 0 }

// log2 returns the greatest n for which 2^n is not above x, which is not 0.
func (x ratio) log2() int {
	n := big.Bits(x.over) - big.Bits(x.under)
	if x.timesTwo(-n).below1() {
		n--
	}
	return n
}

// log10 returns the greatest n for which 10^n is not above x, which is not 0.
func (x ratio) log10() int {
	// A guess from the logarithm of 2, so that few powers of 10 need to be tried.
	n := x.log2() * 30103 / 100000
	for x.timesTen(-n).below1() {
		n--
	}
	for !x.timesTen(-n - 1).below1() {
		n++
	}
	return n
}

// rounded returns the natural number nearest to x, which is less than 2^63; of
// two the even one.
func (x ratio) rounded() uint64 {
	quotient, rest, _ := big.Div(x.over, x.under)
	n := big.Low(quotient)
	half := big.Cmp(big.Shl(rest, 1), x.under)
	if half > 0 || half == 0 && n%2 == 1 {
		n++
	}
	return n
}
