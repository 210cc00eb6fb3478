package need

import (
	"math"
	"slices"
	"testing"

	"tidewheel/api"
	"tidewheel/cron"
)

const hour = 3600

func lag(target, active int) api.Trigger {
	return api.Trigger{Kind: api.KLag, Target: target, Active: active}
}

func depth(target, active int) api.Trigger {
	return api.Trigger{Kind: api.KDepth, Target: target, Active: active}
}

func during(t testing.TB, target int, start, end string) api.Trigger {
	t.Helper()
	a, e := cron.Parse(start)
	b, f := cron.Parse(end)
	if e != api.OK || f != api.OK {
		t.Fatal(start, e, end, f)
	}
	return api.Trigger{Kind: api.KSpan, Target: target, Span: api.Span{Start: a, End: b}}
}

func read(lags ...int) api.Reading { return api.Reading{Lags: lags} }

func failed(lags ...int) api.Reading { return api.Reading{Failed: true, Lags: lags} }

func wantOf(t testing.TB, tr api.Trigger, r api.Reading, sec, shift int, want api.Need) {
	t.Helper()
	if n, e := Of(tr, r, sec, shift); n != want || e != api.OK {
		t.Errorf("Of(%v, %v, %d, %d) = %v, %d, not %v, OK", tr, r, sec, shift, n, e, want)
	}
}

func wantNoNeed(t testing.TB, tr api.Trigger, r api.Reading, sec, shift int, want api.Errno) {
	t.Helper()
	if n, e := Of(tr, r, sec, shift); n != (api.Need{}) || e != want {
		t.Errorf("Of(%v, %v, %d, %d) = %v, %d, not nothing, %d", tr, r, sec, shift, n, e, want)
	}
}

func wantPods(t testing.TB, now, tolerance int, tr api.Trigger, r api.Reading, want int) {
	t.Helper()
	if n, e := Want(now, tolerance, tr, r); n != want || e != api.OK {
		t.Errorf("Want(%d, %d, %v, %v) = %d, %d, not %d, OK", now, tolerance, tr, r, n, e, want)
	}
}

func wantNoPods(t testing.TB, now, tolerance int, tr api.Trigger, r api.Reading, want api.Errno) {
	t.Helper()
	if n, e := Want(now, tolerance, tr, r); n != 0 || e != want {
		t.Errorf("Want(%d, %d, %v, %v) = %d, %d, not 0, %d", now, tolerance, tr, r, n, e, want)
	}
}

// Lags that wait are summed; a partition that is behind is one pod at most.
func TestP14Lag(t *testing.T) {
	for _, x := range []struct {
		tr   api.Trigger
		r    api.Reading
		want api.Need
	}{
		{lag(10, 5), read(100, 0, 3), api.Need{Pods: 2, Active: true}},
		{lag(10, 5), read(5, -3), api.Need{Pods: 1}},
		{lag(10, 0), read(9, 9, 7), api.Need{Pods: 3, Active: true}},
		{lag(10, 0), read(9, 9, 2), api.Need{Pods: 2, Active: true}},
		{lag(10, 0), read(9, 9, 3), api.Need{Pods: 3, Active: true}},
		{lag(10, 0), read(10, 10, 1), api.Need{Pods: 3, Active: true}},
		{lag(10, 0), read(1, 1, 1, 1), api.Need{Pods: 1, Active: true}},
		{lag(1, 0), read(0, 50, 0), api.Need{Pods: 1, Active: true}},
		{lag(1, 0), read(2, 2, 0), api.Need{Pods: 2, Active: true}},
		{lag(10, 0), read(), api.Need{}},
		{lag(10, 0), api.Reading{Lags: []int{}}, api.Need{}},
		{lag(10, 0), read(0, 0), api.Need{}},
		{lag(10, 0), read(-1, math.MinInt), api.Need{}},
		{lag(10, 9), read(-1000, 10, -1000), api.Need{Pods: 1, Active: true}},
		{lag(5, 0), read(-10, 7, 7), api.Need{Pods: 2, Active: true}},
		{lag(math.MaxInt, 0), read(1, 1), api.Need{Pods: 1, Active: true}},
	} {
		wantOf(t, x.tr, x.r, 0, 0, x.want)
	}
}

// Of a queue the first number alone is looked at, without a bound of pods.
func TestP14Depth(t *testing.T) {
	for _, x := range []struct {
		tr   api.Trigger
		r    api.Reading
		want api.Need
	}{
		{depth(10, 0), read(25), api.Need{Pods: 3, Active: true}},
		{depth(10, 0), read(25, 99), api.Need{Pods: 3, Active: true}},
		{depth(10, 0), read(30), api.Need{Pods: 3, Active: true}},
		{depth(10, 0), read(31), api.Need{Pods: 4, Active: true}},
		{depth(10, 0), read(1), api.Need{Pods: 1, Active: true}},
		{depth(10, 0), read(0), api.Need{}},
		{depth(10, 0), read(0, 25), api.Need{}},
		{depth(10, 0), read(-1, 25), api.Need{}},
		{depth(10, 0), read(math.MinInt), api.Need{}},
		{depth(10, 0), read(), api.Need{}},
		{depth(10, 0), api.Reading{Lags: []int{}}, api.Need{}},
		{depth(1, 0), read(1000), api.Need{Pods: 1000, Active: true}},
		{depth(math.MaxInt, 0), read(1), api.Need{Pods: 1, Active: true}},
	} {
		wantOf(t, x.tr, x.r, 0, 0, x.want)
	}
}

// Active is what must be exceeded, and does not hang on the pods.
func TestP14Active(t *testing.T) {
	for _, x := range []struct {
		active, metric int
		want           bool
	}{
		{0, 0, false}, {0, 1, true}, {5, 4, false}, {5, 5, false}, {5, 6, true},
		{-1, 0, true}, {math.MinInt, 0, true}, {math.MaxInt, 1000, false},
		{api.Most, api.Most, false}, {api.Most - 1, api.Most, true},
	} {
		pods := 0
		if x.metric > 0 {
			pods = 1
		}
		want := api.Need{Pods: pods, Active: x.want}
		wantOf(t, lag(math.MaxInt, x.active), read(x.metric), 0, 0, want)
		wantOf(t, depth(math.MaxInt, x.active), read(x.metric), 0, 0, want)
	}
}

// A sum stops at Most, the first of Lags does not; pods are counted of
// what is clipped in both.
func TestP14GreatNumbers(t *testing.T) {
	wantOf(t, lag(1, api.Most-1), read(math.MaxInt), 0, 0, api.Need{Pods: 1, Active: true})
	wantOf(t, lag(1, api.Most), read(math.MaxInt), 0, 0, api.Need{Pods: 1})
	wantOf(t, lag(1, api.Most), read(math.MaxInt, math.MaxInt, -1), 0, 0, api.Need{Pods: 2})
	wantOf(t, lag(api.Most/2, 0), read(math.MaxInt, 1, 1, 1), 0, 0, api.Need{Pods: 2, Active: true})
	wantOf(t, lag(math.MaxInt, 0), read(math.MaxInt, 1, 1, 1), 0, 0, api.Need{Pods: 1, Active: true})
	wantOf(t, depth(1, api.Most), read(api.Most), 0, 0, api.Need{Pods: api.Most})
	wantOf(t, depth(1, api.Most), read(api.Most+1), 0, 0, api.Need{Pods: api.Most, Active: true})
	wantOf(t, depth(1, math.MaxInt), read(math.MaxInt), 0, 0, api.Need{Pods: api.Most})
	wantOf(t, depth(api.Most/2, math.MaxInt-1), read(math.MaxInt), 0, 0, api.Need{Pods: 2, Active: true})
}

// A span reads nothing: neither a failure nor a lag changes it.
func TestP14Span(t *testing.T) {
	work := during(t, 4, "0 8 * * *", "0 18 * * *")
	on := api.Need{Pods: 4, Active: true}
	for _, r := range []api.Reading{read(), read(0), read(1000, 2000), failed(), failed(7)} {
		wantOf(t, work, r, 0, 0, api.Need{})
		wantOf(t, work, r, 8*hour-1, 0, api.Need{})
		wantOf(t, work, r, 8*hour, 0, on)
		wantOf(t, work, r, 9*hour, 0, on)
		wantOf(t, work, r, 18*hour-1, 0, on)
		wantOf(t, work, r, 18*hour, 0, api.Need{})
		wantOf(t, work, r, 8*hour-1, 60, on)
		wantOf(t, work, r, 8*hour, -60, api.Need{})
	}
	for _, target := range []int{1, 50, 51, math.MaxInt} {
		work.Target = target
		for _, active := range []int{0, 7, math.MaxInt, math.MinInt} {
			work.Active = active
			wantOf(t, work, read(), 9*hour, 0, api.Need{Pods: target, Active: true})
			wantOf(t, work, read(), 7*hour, 0, api.Need{})
		}
	}
}

func TestP14SpanErrors(t *testing.T) {
	good := during(t, 4, "0 8 * * *", "0 18 * * *")
	noStart, noEnd := good, good
	noStart.Span.Start.Hour = 0
	noEnd.Span.End.Minute = 1 << 60
	for _, r := range []api.Reading{read(5), failed()} {
		wantNoNeed(t, noStart, r, 9*hour, 0, api.ErrArg)
		wantNoNeed(t, noEnd, r, 9*hour, 0, api.ErrArg)
		for _, sec := range []int{api.MaxTime + 1, -api.MaxTime - 1, math.MaxInt, math.MinInt} {
			wantNoNeed(t, good, r, sec, 0, api.ErrArg)
		}
		for _, shift := range []int{901, -901, math.MaxInt, math.MinInt} {
			wantNoNeed(t, good, r, 9*hour, shift, api.ErrArg)
		}
	}
	wantOf(t, good, read(), 9*hour-900*60, 900, api.Need{Pods: 4, Active: true})
	wantOf(t, good, read(), 9*hour+900*60, -900, api.Need{Pods: 4, Active: true})
}

// Triggers that count don't look at the clock, nor at their span.
func TestP14CountsAtAnyTime(t *testing.T) {
	for _, n := range []int{api.MaxTime + 1, -901, math.MaxInt, math.MinInt} {
		wantOf(t, lag(10, 0), read(25, 1), n, n, api.Need{Pods: 2, Active: true})
		wantOf(t, depth(10, 0), read(25, 1), n, n, api.Need{Pods: 3, Active: true})
		wantNoNeed(t, depth(10, 0), failed(25), n, n, api.ErrNone)
	}
	odd := lag(10, 0)
	odd.Span.Start = api.Cron{Minute: math.MaxUint64, AnyDay: true}
	wantOf(t, odd, read(25, 1), 0, 0, api.Need{Pods: 2, Active: true})
}

// wrongKinds are none of the three.
func wrongKinds() []int {
	return []int{0, 4, 5, -1, -2, math.MaxInt, math.MinInt}
}

// What is wrong with the trigger is told ahead of what its reading is.
func TestP14Errors(t *testing.T) {
	on := during(t, 4, "* * * * *", "0 0 1 1 *")
	for _, r := range []api.Reading{read(), read(25), failed(), failed(25)} {
		for _, kind := range wrongKinds() {
			for _, tr := range []api.Trigger{lag(10, 0), on} {
				tr.Kind = kind
				wantNoNeed(t, tr, r, 9*hour, 0, api.ErrArg)
			}
		}
		for _, target := range []int{0, -1, -10, math.MinInt} {
			for _, tr := range []api.Trigger{lag(10, 0), depth(10, 0), on} {
				tr.Target = target
				wantNoNeed(t, tr, r, 9*hour, 0, api.ErrArg)
			}
		}
	}
	for _, r := range []api.Reading{failed(), failed(0), failed(25, 3)} {
		wantNoNeed(t, lag(10, 0), r, 0, 0, api.ErrNone)
		wantNoNeed(t, depth(1, 7), r, 0, 0, api.ErrNone)
	}
}

// Up to the tolerance, that included, it stays as it is.
func TestP15Tolerance(t *testing.T) {
	for _, x := range []struct{ now, tolerance, metric, want int }{
		{2, 100, 20, 2}, {2, 100, 22, 2}, {2, 100, 23, 3}, {2, 100, 18, 2}, {2, 100, 17, 2},
		{3, 100, 27, 3}, {3, 100, 26, 3}, {3, 100, 33, 3}, {3, 100, 34, 4}, {3, 100, 17, 2},
		{4, 100, 36, 4}, {4, 100, 44, 4}, {4, 100, 45, 5}, {4, 250, 30, 4}, {4, 250, 29, 3},
		// The share is cut downwards.
		{1, 199, 11, 1}, {1, 199, 12, 2}, {1, 200, 12, 1}, {5, 99, 54, 5}, {5, 99, 55, 6},
		{5, 119, 45, 5}, {5, 119, 44, 5}, {5, 219, 40, 5}, {5, 219, 39, 4},
		// Without a tolerance only what is just that much stays.
		{2, 0, 20, 2}, {2, 0, 21, 3}, {2, 0, 19, 2}, {2, 0, 10, 1}, {3, 0, 30, 3},
		// The whole of it: from nothing to twice as much.
		{3, 1000, 0, 3}, {3, 1000, 60, 3}, {3, 1000, 61, 7}, {3, 999, 1, 3}, {3, 999, 0, 0},
		{50, 1000, 0, 50}, {50, 1000, 1000, 50}, {50, 1000, 1001, 101}, {50, 100, 449, 45},
	} {
		wantPods(t, x.now, x.tolerance, depth(10, 0), read(x.metric, 99), x.want)
		// One a partition, so that their number bounds nothing.
		wantPods(t, x.now, x.tolerance, lag(10, 0), read(slices.Repeat([]int{1}, x.metric)...), x.want)
	}
}

// From zero there is nothing that could be near.
func TestP15FromZero(t *testing.T) {
	for _, tolerance := range []int{0, 100, 1000} {
		wantPods(t, 0, tolerance, depth(10, 0), read(0), 0)
		wantPods(t, 0, tolerance, depth(10, 0), read(), 0)
		wantPods(t, 0, tolerance, depth(10, 0), read(1), 1)
		wantPods(t, 0, tolerance, depth(10, 0), read(25), 3)
		wantPods(t, 0, tolerance, lag(10, 0), read(100, 3, 0), 2)
	}
}

// Lags that are near keep the pods there are, also if these are more than
// the partitions that are behind; else those are the bound.
func TestP15Lag(t *testing.T) {
	wantPods(t, 5, 100, lag(10, 0), read(50, 0), 5)
	wantPods(t, 5, 100, lag(10, 0), read(55, -9), 5)
	wantPods(t, 5, 100, lag(10, 0), read(56, -9), 1)
	wantPods(t, 5, 100, lag(10, 0), read(44, 0), 1)
	wantPods(t, 5, 100, lag(10, 0), read(20, 20, 15), 5)
	wantPods(t, 5, 100, lag(10, 0), read(20, 20, 16), 3)
	wantPods(t, 2, 0, lag(10, 0), read(-5, 20), 2)
}

// Whether a trigger is active is not asked.
func TestP15ActiveIsNotAsked(t *testing.T) {
	for _, active := range []int{0, 1000, math.MaxInt, math.MinInt} {
		wantPods(t, 0, 0, depth(10, active), read(25), 3)
		wantPods(t, 1, 0, lag(10, active), read(5, 7), 2)
	}
}

func TestP15GreatNumbers(t *testing.T) {
	// What two pods take stops at Most.
	wantPods(t, 2, 0, depth(api.Most, 0), read(api.Most), 2)
	wantPods(t, 2, 0, depth(api.Most/2+1, 0), read(api.Most), 2)
	wantPods(t, 50, 0, depth(math.MaxInt, 0), read(api.Most), 50)
	wantPods(t, 50, 0, lag(math.MaxInt, 0), read(math.MaxInt, 1), 50)
	wantPods(t, 50, 0, lag(math.MaxInt, 0), read(api.Most-1, 0), 1)
	wantPods(t, 50, 1000, depth(math.MaxInt, 0), read(2*api.Most), 50)
	wantPods(t, 50, 1000, depth(math.MaxInt, 0), read(2*api.Most+1), 1)
	wantPods(t, 50, 1000, depth(1, 0), read(math.MaxInt), api.Most)
	wantPods(t, 1, 1000, depth(math.MaxInt, 0), read(math.MinInt), 1)
	// 999 of a thousand of Most is not clipped on its way.
	wantPods(t, 7, 999, depth(api.Most, 0), read(api.Most/1000), 7)
	wantPods(t, 7, 999, depth(api.Most, 0), read(api.Most/1000-1), 1)
}

func TestP15Errors(t *testing.T) {
	on := during(t, 4, "* * * * *", "0 0 1 1 *")
	for _, r := range []api.Reading{read(), read(25), failed(), failed(25)} {
		for _, now := range []int{-1, 51, math.MaxInt, math.MinInt} {
			wantNoPods(t, now, 100, lag(10, 0), r, api.ErrArg)
			wantNoPods(t, now, 100, depth(10, 0), r, api.ErrArg)
		}
		for _, tolerance := range []int{-1, 1001, math.MaxInt, math.MinInt} {
			for _, now := range []int{0, 1, 50} {
				wantNoPods(t, now, tolerance, lag(10, 0), r, api.ErrArg)
				wantNoPods(t, now, tolerance, depth(10, 0), r, api.ErrArg)
			}
		}
		for _, target := range []int{0, -1, -10, math.MinInt} {
			for _, now := range []int{0, 1, 50} {
				wantNoPods(t, now, 100, lag(target, 0), r, api.ErrArg)
				wantNoPods(t, now, 100, depth(target, 0), r, api.ErrArg)
			}
		}
		for _, kind := range append(wrongKinds(), api.KSpan) {
			wantNoPods(t, 1, 100, api.Trigger{Kind: kind, Target: 10}, r, api.ErrArg)
		}
		wantNoPods(t, 0, 0, on, r, api.ErrArg)
	}
	for _, now := range []int{0, 1, 50} {
		for _, tolerance := range []int{0, 1000} {
			wantNoPods(t, now, tolerance, lag(10, 0), failed(10), api.ErrNone)
			wantNoPods(t, now, tolerance, depth(10, 0), failed(10), api.ErrNone)
			wantPods(t, now, tolerance, depth(10, 0), read(10*now), now)
		}
	}
}
