package num

import (
	"math"
	"math/big"
	"testing"

	"tidewheel/api"
)

// edges are numbers at, and one beside, each bound at which an answer turns.
func edges() []int {
	var all []int
	for _, n := range []int{0, 7, 999, 1000, 31622776, 1 << 31, 1 << 32, 1 << 40, api.Most / 1000, api.Most / 2, api.Most, 2 * api.Most, 1 << 62} {
		for _, d := range []int{-1, 0, 1} {
			all = append(all, n+d, -n+d)
		}
	}
	return append(all, math.MaxInt, math.MaxInt-1, math.MinInt, math.MinInt+1)
}

func clipBig(n *big.Int) *big.Int {
	most := big.NewInt(api.Most)
	if n.CmpAbs(most) <= 0 {
		return n
	}
	if n.Sign() < 0 {
		return most.Neg(most)
	}
	return most
}

func clipped(n int) *big.Int { return clipBig(big.NewInt(int64(n))) }

func notBelowZero(n *big.Int) *big.Int {
	if n.Sign() < 0 {
		return new(big.Int)
	}
	return n
}

// floorBy is a by b, cut downwards; b is above 0, where Div is Euclid's.
func floorBy(a, b *big.Int) *big.Int { return new(big.Int).Div(a, b) }

func ceilBy(a, b *big.Int) *big.Int {
	n := floorBy(new(big.Int).Neg(a), b)
	return n.Neg(n)
}

func same(t *testing.T, call string, a, b, got int, want *big.Int) {
	t.Helper()
	if big.NewInt(int64(got)).Cmp(want) != 0 {
		t.Errorf("%s(%d, %d) = %d, not %s", call, a, b, got, want)
	}
}

// checkPair holds the calls of P3 against numbers without a bound.
func checkPair(t *testing.T, a, b int) {
	t.Helper()
	x, y := clipped(a), clipped(b)
	same(t, "Add", a, b, Add(a, b), clipBig(new(big.Int).Add(x, y)))
	same(t, "Sub", a, b, Sub(a, b), clipBig(new(big.Int).Sub(x, y)))
	same(t, "Mul", a, b, Mul(a, b), clipBig(new(big.Int).Mul(x, y)))
	whole := new(big.Int).Mul(notBelowZero(x), notBelowZero(y))
	same(t, "Share", a, b, Share(a, b), clipBig(floorBy(whole, big.NewInt(1000))))
	n, e := Ceil(a, b)
	if b < 1 {
		if n != 0 || e != api.ErrArg {
			t.Errorf("Ceil(%d, %d) = %d, %d, not 0, ErrArg", a, b, n, e)
		}
		return
	}
	if e != api.OK {
		t.Errorf("Ceil(%d, %d) told %d", a, b, e)
	}
	same(t, "Ceil", a, b, n, ceilBy(x, y))
}

func TestP3Clip(t *testing.T) {
	for _, x := range [][2]int{
		{0, 0}, {5, 5}, {-5, -5},
		{api.Most - 1, api.Most - 1}, {api.Most, api.Most}, {api.Most + 1, api.Most},
		{1 - api.Most, 1 - api.Most}, {-api.Most, -api.Most}, {-api.Most - 1, -api.Most},
		{math.MaxInt, api.Most}, {math.MinInt, -api.Most},
	} {
		if n := Clip(x[0]); n != x[1] {
			t.Errorf("Clip(%d) = %d, not %d", x[0], n, x[1])
		}
	}
}

// The first two of these are clipped ahead of the sum, not only behind it.
func TestP3Sums(t *testing.T) {
	for _, x := range [][4]int{
		{math.MaxInt, -1, api.Most - 1, api.Most},
		{math.MinInt, 1, 1 - api.Most, -api.Most},
		{2, 3, 5, -1}, {3, -5, -2, 8},
		{math.MaxInt, math.MaxInt, api.Most, 0},
		{math.MaxInt, math.MinInt, 0, api.Most},
		{math.MinInt, math.MinInt, -api.Most, 0},
		{0, math.MinInt, -api.Most, api.Most},
	} {
		if n := Add(x[0], x[1]); n != x[2] {
			t.Errorf("Add(%d, %d) = %d, not %d", x[0], x[1], n, x[2])
		}
		if n := Sub(x[0], x[1]); n != x[3] {
			t.Errorf("Sub(%d, %d) = %d, not %d", x[0], x[1], n, x[3])
		}
	}
}

func TestP3Mul(t *testing.T) {
	for _, x := range [][3]int{
		{6, 7, 42}, {-6, 7, -42}, {-6, -7, 42}, {0, math.MinInt, 0}, {math.MaxInt, 0, 0},
		{api.Most, 1, api.Most}, {-1, api.Most, -api.Most}, {math.MinInt, -1, api.Most},
		{1000, api.Most / 1000, api.Most}, {1001, api.Most / 1000, api.Most},
		{999, api.Most / 1000, api.Most - api.Most/1000},
		{1 << 32, 1 << 32, api.Most}, {1 << 32, -1 << 32, -api.Most},
		{math.MinInt, math.MinInt, api.Most}, {math.MinInt, math.MaxInt, -api.Most},
	} {
		if n := Mul(x[0], x[1]); n != x[2] {
			t.Errorf("Mul(%d, %d) = %d, not %d", x[0], x[1], n, x[2])
		}
	}
}

func TestP3Ceil(t *testing.T) {
	for _, x := range [][3]int{
		{25, 10, 3}, {30, 10, 3}, {31, 10, 4}, {1, 10, 1}, {0, 10, 0},
		{-1, 10, 0}, {-10, 10, -1}, {-11, 10, -1}, {-20, 10, -2}, {-9, 1, -9},
		{math.MaxInt, 1, api.Most}, {math.MinInt, 1, -api.Most},
		{math.MaxInt, math.MaxInt, 1}, {math.MaxInt, 2 * api.Most, 1},
		{api.Most - 1, api.Most, 1}, {1, math.MaxInt, 1}, {-1, math.MaxInt, 0},
	} {
		if n, e := Ceil(x[0], x[1]); n != x[2] || e != api.OK {
			t.Errorf("Ceil(%d, %d) = %d, %d, not %d, OK", x[0], x[1], n, e, x[2])
		}
	}
	for _, b := range []int{0, -1, -10, -api.Most, math.MinInt} {
		if n, e := Ceil(25, b); n != 0 || e != api.ErrArg {
			t.Errorf("Ceil(25, %d) = %d, %d, not 0, ErrArg", b, n, e)
		}
	}
}

func TestP3Share(t *testing.T) {
	for _, x := range [][3]int{
		{999, 500, 499}, {1000, 500, 500}, {1, 999, 0}, {1, 1000, 1}, {7, 0, 0}, {0, 7, 0},
		{-5, 1000, 0}, {5, -1, 0}, {-5, -1000, 0}, {math.MinInt, math.MinInt, 0},
		{api.Most, 1000, api.Most}, {api.Most, 500, api.Most / 2}, {api.Most - 1, 999, 998999999999999},
		{500, api.Most, api.Most / 2}, {999, api.Most - 1, 998999999999999},
		{1001, api.Most, api.Most}, {math.MaxInt, 999, 999000000000000},
		{math.MaxInt, math.MaxInt, api.Most},
	} {
		if n := Share(x[0], x[1]); n != x[2] {
			t.Errorf("Share(%d, %d) = %d, not %d", x[0], x[1], n, x[2])
		}
	}
}

func TestP3AgainstBig(t *testing.T) {
	all := edges()
	for _, a := range all {
		for _, b := range all {
			checkPair(t, a, b)
		}
	}
	for a := -120; a <= 120; a++ {
		for b := -120; b <= 120; b++ {
			checkPair(t, a, b)
		}
	}
}

func FuzzP3(f *testing.F) {
	f.Add(api.Most, 999)
	f.Add(math.MinInt, -1)
	f.Fuzz(checkPair)
}

type answers struct {
	clip, add, sub, mul, ceil, share int
	e                                api.Errno
}

func answersOf(a, b int) answers {
	n, e := Ceil(a, b)
	return answers{Clip(a), Add(a, b), Sub(a, b), Mul(a, b), n, Share(a, b), e}
}

// A panic at any pair of edges ends the test.
func TestP1AnswersAtEveryEdge(t *testing.T) {
	for _, a := range edges() {
		for _, b := range edges() {
			x := answersOf(a, b)
			for _, n := range []int{x.clip, x.add, x.sub, x.mul, x.ceil, x.share} {
				if n < -api.Most || n > api.Most {
					t.Errorf("%d, %d: %d is out of bounds", a, b, n)
				}
			}
		}
	}
}

// Other calls stand between the first answer and the second one, in
// another order, so that a thing kept between calls would be seen.
func TestP2NothingIsKept(t *testing.T) {
	all := edges()
	first := make(map[[2]int]answers)
	for _, a := range all {
		for _, b := range all {
			first[[2]int{a, b}] = answersOf(a, b)
		}
	}
	for i := len(all) - 1; i >= 0; i-- {
		for j := len(all) - 1; j >= 0; j-- {
			a, b := all[j], all[i]
			if x := answersOf(a, b); x != first[[2]int{a, b}] {
				t.Errorf("%d, %d: %v, and %v before", a, b, x, first[[2]int{a, b}])
			}
		}
	}
}

// With an error every other result is its zero value.
func TestP2ErrorTellsNothingElse(t *testing.T) {
	for _, a := range edges() {
		for _, b := range edges() {
			if n, e := Ceil(a, b); e != api.OK && n != 0 {
				t.Errorf("Ceil(%d, %d) = %d beside error %d", a, b, n, e)
			}
		}
	}
}
