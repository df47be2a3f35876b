// Package fix has numbers of 32 bits with a point that stands still; what is too great is cut, and never goes round.
package fix

const (
	most  = 1<<31 - 1
	least = -1 << 31
)

// Over is n by d, to the nearest; of two that are as near, the one farther from 0.
func Over(n, d int64) int64 {
	if d == 0 {
		return 0
	}
	a, b := far(n), far(d)
	q, left := a/b, a%b
	// left*2 could go round; b-left can't.
	if left >= b-left {
		q++
	}
	if (n < 0) != (d < 0) {
		return int64(-q)
	}
	if q > 1<<63-1 {
		return 1<<63 - 1
	}
	return int64(q)
}

// far is how far n is from 0.
func far(n int64) uint64 {
	if n < 0 {
		return -uint64(n)
	}
	return uint64(n)
}

// Round is Over of n and 2 to the power of frac.
func Round(n int64, frac int) int64 {
	return Over(n, power(within(frac, 62)))
}

// within is n, brought to 0 or hi where it is beyond.
func within(n, hi int) int {
	return max(0, min(n, hi))
}

func power(frac int) int64 {
	p := int64(1)
	for range frac {
		p += p
	}
	return p
}

// cut adds numbers whose sum has room, and cuts it to 32 bits. All other calls hand their outcome to it.
func cut(parts ...int64) (int32, bool) {
	n := int64(0)
	for i := range len(parts) {
		n += parts[i]
	}
	if n > most {
		return most, true
	}
	if n < least {
		return least, true
	}
	return int32(n), false
}

// Clamp is n, cut.
func Clamp(n int64) (int32, bool) { return cut(n) }

// Add is the sum, cut.
func Add(a, b int32) (int32, bool) { return cut(int64(a), int64(b)) }

// Sub is the difference, cut.
func Sub(a, b int32) (int32, bool) { return cut(int64(a), -int64(b)) }

// Neg is a taken from 0, cut.
func Neg(a int32) (int32, bool) { return cut(-int64(a)) }

// Abs is how far a is from 0, cut.
func Abs(a int32) (int32, bool) { return cut(int64(far(int64(a)))) }

// Mul is the product, with frac bits fewer behind the point, cut.
func Mul(a, b int32, frac int) (int32, bool) {
	return cut(Round(int64(a)*int64(b), within(frac, 30)))
}

// Div is a by b, with frac bits more behind the point, cut.
func Div(a, b int32, frac int) (int32, bool) {
	if b == 0 {
		return beyond(a), true
	}
	return cut(Over(int64(a)*power(within(frac, 30)), int64(b)))
}

// beyond is what a by 0 is cut to.
func beyond(a int32) int32 {
	switch {
	case a > 0:
		return most
	case a < 0:
		return least
	}
	return 0
}
