// Package num: numbers that stop growing: see doc/01-num.md.
package num

import "tidewheel/api"

// Clip: P3.
func Clip(n int) int {
	if n > api.Most {
		return api.Most
	}
	if n < -api.Most {
		return -api.Most
	}
	return n
}

// Add: P3.
func Add(a, b int) int {
	return Clip(Clip(a) + Clip(b))
}

// Sub: P3.
func Sub(a, b int) int {
	return Clip(Clip(a) - Clip(b))
}

// Mul: P3.
func Mul(a, b int) int {
	a, b = Clip(a), Clip(b)
	// The product of two clipped numbers may be beyond an int, so that
	// it is asked by a division ahead of being made.
	if a == 0 || size(b) <= api.Most/size(a) {
		return a * b
	}
	if (a < 0) != (b < 0) {
		return -api.Most
	}
	return api.Most
}

// Ceil: P3.
func Ceil(a, b int) (int, api.Errno) {
	if b < 1 {
		return 0, api.ErrArg
	}
	a, b = Clip(a), Clip(b)
	q := a / b
	// A quotient below 0 is cut towards 0, which is upwards already.
	if a%b > 0 {
		q++
	}
	return q, api.OK
}

// Share: P3.
func Share(a, mille int) int {
	a, mille = atLeastZero(Clip(a)), atLeastZero(Clip(mille))
	// The product must not be clipped ahead of the division, and may be
	// beyond an int: the thousands of a are whole shares, and what is
	// left of a is small enough to be multiplied.
	return Add(Mul(a/1000, mille), a%1000*mille/1000)
}

// size is handed clipped numbers only, of which each has its opposite.
func size(n int) int {
	if n < 0 {
		return -n
	}
	return n
}

func atLeastZero(n int) int {
	if n < 0 {
		return 0
	}
	return n
}
