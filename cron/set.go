package cron

import "math/bits"

// bound is the least and the greatest number that there may be.
type bound struct{ least, most int }

func (b bound) has(n int) bool { return n >= b.least && n <= b.most }

// all is the set of all numbers of a bound.
func (b bound) all() uint64 { return 1<<(b.most+1) - 1<<b.least }

// each is the set of a bound's least number, and of each that is a
// multiple of step behind it.
func (b bound) each(step int) uint64 {
	var set uint64
	for n := b.least; n <= b.most; n += step {
		set |= 1 << n
	}
	return set
}

// has takes any number: a time that is handed in may have any.
func has(set uint64, n int) bool {
	return n >= 0 && n <= 63 && set>>n&1 == 1
}

// from is the least number of a set that is n at least; n isn't below 0.
func from(set uint64, n int) (int, bool) {
	set = set >> n << n
	return bits.TrailingZeros64(set), set != 0
}

// upTo is the greatest number of a set that is n at most; n isn't below -1.
func upTo(set uint64, n int) (int, bool) {
	set &= 1<<(n+1) - 1
	return bits.Len64(set) - 1, set != 0
}
