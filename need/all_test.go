package need

import (
	"math"
	"math/big"
	"math/rand/v2"
	"slices"
	"testing"

	"tidewheel/api"
	"tidewheel/span"
)

func whole(n int) *big.Int { return big.NewInt(int64(n)) }

func clipped(n *big.Int) *big.Int {
	if n.Cmp(whole(api.Most)) > 0 {
		return whole(api.Most)
	}
	return n
}

// modelMetric, modelOf and modelWant say the words of P14 and P15 once
// more, in numbers without a bound that are clipped where P3 does it.
func modelMetric(t api.Trigger, r api.Reading) *big.Int {
	all := new(big.Int)
	for i, n := range r.Lags {
		if n > 0 && (t.Kind == api.KLag || i == 0) {
			all.Add(all, whole(n))
		}
	}
	if t.Kind == api.KLag {
		return clipped(all)
	}
	return all
}

func modelPods(t api.Trigger, r api.Reading) int {
	target := clipped(whole(t.Target))
	pods, rest := new(big.Int).QuoRem(clipped(modelMetric(t, r)), target, new(big.Int))
	if rest.Sign() > 0 {
		pods.Add(pods, whole(1))
	}
	behind := slices.DeleteFunc(slices.Clone(r.Lags), func(n int) bool { return n <= 0 })
	if t.Kind == api.KLag && pods.Cmp(whole(len(behind))) > 0 {
		return len(behind)
	}
	return int(pods.Int64())
}

func modelOf(t api.Trigger, r api.Reading, sec, shift int) (api.Need, api.Errno) {
	if t.Kind < 1 || t.Kind > 3 || t.Target < 1 {
		return api.Need{}, api.ErrArg
	}
	if t.Kind == 3 {
		in, e := span.In(t.Span, sec, shift)
		if e != api.OK || !in {
			return api.Need{}, e
		}
		return api.Need{Pods: t.Target, Active: true}, api.OK
	}
	if r.Failed {
		return api.Need{}, api.ErrNone
	}
	return api.Need{Pods: modelPods(t, r), Active: modelMetric(t, r).Cmp(whole(t.Active)) > 0}, api.OK
}

func modelWant(now, tolerance int, t api.Trigger, r api.Reading) (int, api.Errno) {
	if t.Kind < 1 || t.Kind > 2 || t.Target < 1 || now < 0 || now > 50 || tolerance < 0 || tolerance > 1000 {
		return 0, api.ErrArg
	}
	if r.Failed {
		return 0, api.ErrNone
	}
	base := clipped(new(big.Int).Mul(whole(now), whole(t.Target)))
	room := new(big.Int).Mul(base, whole(tolerance))
	room.Quo(room, whole(1000))
	far := new(big.Int).Sub(modelMetric(t, r), base)
	if now > 0 && far.CmpAbs(room) <= 0 {
		return now, api.OK
	}
	return modelPods(t, r), api.OK
}

// hold holds both calls against the model, twice, and what they were
// handed against what it was, the room behind the list included.
func hold(tt testing.TB, now, tolerance int, t api.Trigger, r api.Reading, sec, shift int) {
	tt.Helper()
	all := r.Lags[:cap(r.Lags)]
	before := slices.Clone(all)
	need, e := modelOf(t, r, sec, shift)
	pods, f := modelWant(now, tolerance, t, r)
	for range 2 {
		if n, g := Of(t, r, sec, shift); n != need || g != e {
			tt.Errorf("Of(%v, %v, %d, %d) = %v, %d, not %v, %d", t, r, sec, shift, n, g, need, e)
		}
		if n, g := Want(now, tolerance, t, r); n != pods || g != f {
			tt.Errorf("Want(%d, %d, %v, %v) = %d, %d, not %d, %d", now, tolerance, t, r, n, g, pods, f)
		}
	}
	if !slices.Equal(all, before) {
		tt.Errorf("%v was %v", all, before)
	}
}

// edges are numbers at, and one beside, each bound at which an answer turns.
func edges() []int {
	all := []int{math.MaxInt, math.MaxInt - 1, math.MinInt, math.MinInt + 1}
	for _, n := range []int{0, 2, 50, 1000, api.Most / 50, api.Most, 2 * api.Most} {
		all = append(all, n-1, n, n+1, -n)
	}
	return all
}

// A panic at any of these ends the test.
func TestP1P2AnswersWhateverItIsGiven(t *testing.T) {
	span := during(t, 1, "0 8 * * *", "0 18 * * *").Span
	numbers := edges()
	for _, kind := range []int{-1, 0, 1, 2, 3, 4} {
		for _, target := range numbers {
			for i, n := range numbers {
				tr := api.Trigger{Kind: kind, Target: target, Active: n, Span: span}
				other := numbers[(i*7+3)%len(numbers)]
				for _, r := range []api.Reading{read(), read(n), read(n, other), read(other, n, n, 3), failed(n)} {
					for _, now := range []int{n, 0, 1, 2, 49, 50} {
						hold(t, now, other, tr, r, n, other)
						hold(t, now, 999, tr, r, 9*hour, 0)
					}
				}
			}
		}
	}
}

// Every metric about what now pods take, at every tenth of the tolerance.
func TestP15EveryMetric(t *testing.T) {
	for _, target := range []int{1, 3, 10, 999} {
		for now := range 51 {
			for tolerance := 0; tolerance <= 1000; tolerance += 100 {
				base := now * target
				room := base * tolerance / 1000
				for _, at := range []int{base - room, base, base + room} {
					for n := at - 2; n <= at+2; n++ {
						hold(t, now, tolerance, depth(target, n), read(n, 1), 0, 0)
						hold(t, now, tolerance, lag(target, n), read(n-1, 1, 0), 0, 0)
					}
				}
			}
		}
	}
}

func randomNumber(r *rand.Rand) int {
	switch r.IntN(12) {
	case 0:
		return edges()[r.IntN(len(edges()))]
	case 1:
		return r.IntN(2*api.Most) - api.Most
	case 2:
		return -r.IntN(100)
	}
	return r.IntN(100)
}

// randomReading has room behind its list, which is not to be read.
func randomReading(r *rand.Rand) api.Reading {
	lags := make([]int, 12)
	for i := range lags {
		lags[i] = randomNumber(r)
	}
	return api.Reading{Failed: r.IntN(10) == 0, Lags: lags[:r.IntN(10)]}
}

func TestP14P15RandomTriggers(t *testing.T) {
	r := rand.New(rand.NewPCG(14, 15))
	span := during(t, 1, "*/20 8-17 * * *", "10 * * * *").Span
	for range 200000 {
		tr := api.Trigger{Kind: 1 + r.IntN(2), Target: 1 + r.IntN(40), Active: randomNumber(r)}
		switch r.IntN(20) {
		case 0:
			tr.Kind = r.IntN(6) - 1
		case 1:
			tr.Target = randomNumber(r)
		case 2:
			tr.Kind, tr.Span = api.KSpan, span
		}
		hold(t, r.IntN(54)-1, r.IntN(1003)-1, tr, randomReading(r), r.IntN(24*hour), r.IntN(1803)-901)
	}
}

// A long list is summed and counted to its end.
func TestP14ManyPartitions(t *testing.T) {
	lags := make([]int, 100000)
	for i := range lags {
		lags[i] = i%3 - 1
	}
	wantOf(t, lag(1, 33332), read(lags...), 0, 0, api.Need{Pods: 33333, Active: true})
	wantOf(t, lag(1, 33333), read(lags...), 0, 0, api.Need{Pods: 33333})
	lags[len(lags)-1] = 500
	wantOf(t, lag(1, 33833), read(lags...), 0, 0, api.Need{Pods: 33334})
}

// Other calls stand between the first answer and the second one, in
// another order, so that a thing kept between calls would be seen.
func TestP2NothingIsKept(t *testing.T) {
	type answers struct {
		need api.Need
		pods int
		e, f api.Errno
	}
	r := rand.New(rand.NewPCG(14, 2))
	var readings []api.Reading
	for range 500 {
		readings = append(readings, randomReading(r))
	}
	get := func(i int) (a answers) {
		tr := api.Trigger{Kind: i % 4, Target: 1 + i%9, Active: i % 100}
		a.need, a.e = Of(tr, readings[i], i, i)
		a.pods, a.f = Want(i%51, i, tr, readings[i])
		return a
	}
	first := make([]answers, len(readings))
	for i := range readings {
		first[i] = get(i)
	}
	for i := len(readings) - 1; i >= 0; i-- {
		if a := get(i); a != first[i] {
			t.Errorf("%v: %v, and %v before", readings[i], a, first[i])
		}
	}
}

func FuzzP14P15(f *testing.F) {
	f.Add(2, 100, api.KDepth, 10, 0, false, 22, 99, 0, 0)
	f.Add(5, 100, api.KLag, 10, 5, false, 55, -9, 0, 0)
	f.Add(50, 1000, api.KDepth, math.MaxInt, 0, false, 2*api.Most, 1, 0, 0)
	f.Add(1, 0, api.KSpan, 4, 0, true, 0, 0, 9*hour, -60)
	span := during(f, 1, "0 8 * * *", "0 18 * * *").Span
	f.Fuzz(func(t *testing.T, now, tolerance, kind, target, active int, fails bool, a, b, sec, shift int) {
		tr := api.Trigger{Kind: kind, Target: target, Active: active, Span: span}
		hold(t, now, tolerance, tr, api.Reading{Failed: fails, Lags: []int{a, b}}, sec, shift)
	})
}
