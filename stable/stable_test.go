package stable

import (
	"math"
	"testing"

	"tidewheel/api"
)

// clock is MaxClock as the document writes it.
const clock = 1 << 40

// step is a Settle that answers OK: what it is given, and what it tells.
type step struct{ now, have, want, n int }

func settle(t testing.TB, s *Stable, steps ...step) {
	t.Helper()
	for i, x := range steps {
		if n, e := s.Settle(x.now, x.have, x.want); n != x.n || e != api.OK {
			t.Errorf("step %d: Settle(%d, %d, %d) = %d, %d, not %d, OK", i, x.now, x.have, x.want, n, e, x.n)
		}
	}
}

func refuse(t testing.TB, s *Stable, now, have, want int) {
	t.Helper()
	if n, e := s.Settle(now, have, want); n != 0 || e != api.ErrArg {
		t.Errorf("Settle(%d, %d, %d) = %d, %d, not 0, ErrArg", now, have, want, n, e)
	}
}

func upOnly(window, pods, percent, period int) *Stable {
	return New(api.Pace{Window: window, Pods: pods, Percent: percent, Period: period}, api.Pace{})
}

func downOnly(window, pods, percent, period int) *Stable {
	return New(api.Pace{}, api.Pace{Window: window, Pods: pods, Percent: percent, Period: period})
}

// Without windows and paces what is wanted is told, at any time.
func TestP16NoPace(t *testing.T) {
	s := New(api.Pace{}, api.Pace{})
	for _, now := range []int{0, 0, 1, 1000, clock} {
		for have := range 51 {
			for want := range 51 {
				settle(t, s, step{now, have, want, want})
			}
		}
	}
}

func TestP16ErrorsOfPods(t *testing.T) {
	s := New(api.Pace{Window: 5}, api.Pace{Window: 5})
	settle(t, s, step{10, 3, 3, 3})
	for _, n := range []int{-1, 51, 52, math.MaxInt, math.MinInt} {
		refuse(t, s, 10, n, 3)
		refuse(t, s, 10, 3, n)
		refuse(t, s, 10, n, n)
		refuse(t, s, 11, n, 0)
		refuse(t, s, 11, 50, n)
	}
	settle(t, s, step{10, 0, 0, 0}, step{20, 50, 50, 50}, step{20, 0, 50, 50}, step{25, 50, 0, 0})
}

func TestP16ErrorsOfNow(t *testing.T) {
	for _, s := range []*Stable{New(api.Pace{}, api.Pace{}), upOnly(9, 1, 1, 9)} {
		for _, now := range []int{-1, -clock, math.MinInt, clock + 1, math.MaxInt} {
			refuse(t, s, now, 1, 1)
		}
		settle(t, s, step{0, 1, 1, 1}, step{0, 1, 1, 1}, step{7, 1, 1, 1})
		for _, now := range []int{6, 0, -1, math.MinInt, clock + 1} {
			refuse(t, s, now, 1, 1)
		}
		settle(t, s, step{7, 1, 1, 1}, step{clock, 1, 1, 1}, step{clock, 1, 1, 1})
		refuse(t, s, clock-1, 1, 1)
		refuse(t, s, clock+1, 1, 1)
	}
}

// The now of a Settle that was refused binds nobody, and what it was
// given is not known as wanted, neither low nor high.
func TestP16RefusedChangesNothing(t *testing.T) {
	s := New(api.Pace{Window: 100}, api.Pace{Window: 100})
	settle(t, s, step{5, 10, 10, 10})
	refuse(t, s, 50, 51, 0)
	refuse(t, s, 50, -1, 50)
	refuse(t, s, 50, 10, 51)
	refuse(t, s, 4, 10, 0)
	refuse(t, s, 4, 0, 50)
	refuse(t, s, clock+1, 0, 50)
	settle(t, s, step{5, 9, 20, 10}, step{5, 21, 9, 20})

	// Nor is anything forgotten.
	p := upOnly(0, 1, 0, 10)
	settle(t, p, step{0, 1, 9, 2})
	refuse(t, p, 1000, 51, 9)
	settle(t, p, step{9, 2, 9, 2}, step{10, 2, 9, 3})
}

// What was wanted just a window ago is out of it; one tick later is in.
func TestP16UpWindow(t *testing.T) {
	for _, window := range []int{1, 2, 3, 50, 100000} {
		s := upOnly(window, 0, 0, 0)
		settle(t, s,
			step{1000, 2, 4, 4},
			step{1000 + window - 1, 2, 9, 4},
			step{1000 + window, 2, 9, 9})
	}
	// Of window 0 nothing is in, not even what was wanted now.
	settle(t, upOnly(0, 0, 0, 0), step{7, 2, 4, 4}, step{7, 2, 9, 9})
	// Of window 1 only what was wanted now is.
	settle(t, upOnly(1, 0, 0, 0), step{7, 2, 4, 4}, step{7, 2, 9, 4}, step{8, 2, 9, 9})
}

// The least of a window is told, whichever stands first, and not fewer
// than there are.
func TestP16UpWindowIsTheLeast(t *testing.T) {
	s := upOnly(10, 0, 0, 0)
	settle(t, s,
		step{0, 1, 9, 9}, step{1, 1, 5, 5}, step{2, 1, 7, 5}, step{3, 1, 8, 5},
		step{3, 6, 8, 6}, step{3, 7, 8, 7}, step{4, 5, 8, 5},
		step{10, 1, 9, 5}, step{11, 1, 9, 7}, step{12, 1, 9, 8}, step{13, 1, 9, 8},
		step{14, 1, 9, 9})
	// Wants that made nothing more are in the window, too.
	settle(t, s, step{30, 4, 4, 4}, step{31, 5, 3, 3}, step{32, 1, 9, 3}, step{40, 1, 9, 3}, step{41, 1, 9, 9})
	// Down, it has no window.
	settle(t, s, step{42, 9, 1, 1}, step{42, 9, 0, 0})
}

func TestP16DownWindow(t *testing.T) {
	for _, window := range []int{1, 2, 3, 50, 100000} {
		s := downOnly(window, 0, 0, 0)
		settle(t, s,
			step{1000, 9, 4, 4},
			step{1000 + window - 1, 9, 2, 4},
			step{1000 + window, 9, 2, 2})
	}
	settle(t, downOnly(0, 0, 0, 0), step{7, 9, 4, 4}, step{7, 9, 2, 2})
	settle(t, downOnly(1, 0, 0, 0), step{7, 9, 4, 4}, step{7, 9, 2, 4}, step{8, 9, 2, 2})
}

// The greatest of a window is told, and not more than there are.
func TestP16DownWindowIsTheGreatest(t *testing.T) {
	s := downOnly(10, 0, 0, 0)
	settle(t, s,
		step{0, 9, 2, 2}, step{1, 9, 5, 5}, step{2, 9, 3, 5}, step{3, 9, 1, 5},
		step{3, 4, 1, 4}, step{3, 3, 1, 3}, step{4, 5, 1, 5},
		step{10, 9, 1, 5}, step{11, 9, 1, 3}, step{12, 9, 1, 1}, step{13, 9, 0, 1})
	settle(t, s, step{30, 6, 6, 6}, step{31, 2, 7, 7}, step{32, 9, 1, 7}, step{40, 9, 1, 7}, step{41, 9, 1, 1})
	settle(t, s, step{42, 1, 9, 9}, step{42, 1, 10, 10})
}

// Pods of a pace: two within five ticks, however they come.
func TestP16UpPods(t *testing.T) {
	s := upOnly(0, 2, 0, 5)
	settle(t, s,
		step{0, 1, 9, 3}, step{0, 3, 9, 3}, step{1, 3, 9, 3}, step{4, 3, 9, 3},
		step{5, 3, 4, 4}, step{6, 4, 9, 5}, step{9, 5, 9, 5}, step{10, 5, 9, 6},
		step{11, 6, 9, 7}, step{12, 7, 9, 7}, step{100, 7, 8, 8}, step{100, 8, 9, 9}, step{100, 9, 10, 9})
	// From none, too.
	settle(t, upOnly(0, 2, 0, 5), step{0, 0, 50, 2}, step{5, 2, 50, 4})
	settle(t, upOnly(0, 100000, 0, 5), step{0, 0, 50, 50})
	settle(t, upOnly(0, 1, 0, 100000), step{3, 0, 50, 1}, step{100002, 1, 50, 1}, step{100003, 1, 50, 2})
	settle(t, upOnly(0, 1, 0, 1), step{3, 0, 50, 1}, step{3, 1, 50, 1}, step{4, 1, 50, 2}, step{5, 2, 50, 3})
}

// Percent of a pace: of how many there were, upwards.
func TestP16UpPercent(t *testing.T) {
	for _, x := range []struct{ percent, have, most int }{
		{1, 1, 2}, {1, 50, 50}, {1, 49, 50}, {10, 10, 11}, {10, 11, 13}, {10, 20, 22}, {10, 21, 24},
		{50, 1, 2}, {50, 2, 3}, {50, 3, 5}, {50, 4, 6}, {100, 7, 14}, {99, 7, 14}, {101, 7, 15},
		{1000, 3, 33}, {100000, 1, 50}, {33, 3, 4}, {34, 3, 5},
		// Of none there is no part.
		{1, 0, 0}, {100, 0, 0}, {100000, 0, 0},
	} {
		settle(t, upOnly(0, 0, x.percent, 7), step{0, x.have, 50, x.most})
	}
	// Its base is what there was ahead of the period.
	settle(t, upOnly(0, 0, 50, 7),
		step{0, 4, 5, 5}, step{3, 5, 9, 6}, step{6, 6, 9, 6}, step{7, 6, 9, 8}, step{9, 8, 50, 8},
		step{10, 8, 50, 9}, step{13, 9, 50, 9}, step{14, 9, 50, 12})
}

// Of both the greater one counts.
func TestP16UpPodsOrPercent(t *testing.T) {
	for _, x := range []struct{ pods, percent, have, most int }{
		{2, 10, 5, 7}, {2, 10, 20, 22}, {2, 10, 21, 24}, {3, 100, 2, 5}, {3, 100, 3, 6}, {3, 100, 4, 8}, {1, 100, 0, 1},
	} {
		settle(t, upOnly(0, x.pods, x.percent, 7), step{0, x.have, 50, x.most})
	}
}

// Pods that went some other way leave fewer than have grown: the base is
// none then, and there are still as many as there are.
func TestP16UpBaseIsNotBelowZero(t *testing.T) {
	settle(t, upOnly(0, 10, 0, 5), step{0, 0, 10, 10}, step{1, 2, 50, 10}, step{2, 3, 50, 10}, step{3, 12, 50, 12})
	settle(t, upOnly(0, 3, 100, 5), step{0, 10, 20, 20}, step{1, 4, 50, 4}, step{2, 2, 50, 3}, step{3, 12, 50, 12})
}

// What was made fewer is not taken off from what was made more, nor the
// other way round.
func TestP16UpAndDownAreCountedApart(t *testing.T) {
	pace := api.Pace{Pods: 3, Period: 10}
	settle(t, New(pace, pace),
		step{0, 5, 9, 8}, step{1, 8, 0, 5}, step{2, 5, 9, 5}, step{3, 5, 0, 5},
		step{10, 5, 9, 8}, step{10, 8, 0, 8}, step{11, 8, 0, 5})
	// Nor does what one pace doesn't count bear on the other one.
	settle(t, upOnly(0, 3, 0, 10), step{0, 5, 9, 8}, step{1, 8, 0, 0}, step{2, 0, 9, 3}, step{3, 3, 9, 3})
	settle(t, downOnly(0, 3, 0, 10), step{0, 9, 0, 6}, step{1, 6, 50, 50}, step{2, 50, 0, 50}, step{10, 50, 0, 47})
}

func TestP16DownPods(t *testing.T) {
	s := downOnly(0, 2, 0, 5)
	settle(t, s,
		step{0, 9, 1, 7}, step{0, 7, 1, 7}, step{1, 7, 1, 7}, step{4, 7, 1, 7},
		step{5, 7, 6, 6}, step{6, 6, 1, 5}, step{9, 5, 1, 5}, step{10, 5, 1, 4},
		step{11, 4, 1, 3}, step{12, 3, 1, 3}, step{100, 3, 2, 2}, step{100, 2, 1, 1}, step{100, 1, 0, 1})
	settle(t, downOnly(0, 2, 0, 5), step{0, 50, 0, 48}, step{5, 48, 0, 46})
	settle(t, downOnly(0, 100000, 0, 5), step{0, 50, 0, 0})
	settle(t, downOnly(0, 1, 0, 100000), step{3, 9, 0, 8}, step{100002, 8, 0, 8}, step{100003, 8, 0, 7})
	settle(t, downOnly(0, 1, 0, 1), step{3, 9, 0, 8}, step{3, 8, 0, 8}, step{4, 8, 0, 7}, step{5, 7, 0, 6})
}

// Percent of a pace: of how many there were, downwards.
func TestP16DownPercent(t *testing.T) {
	for _, x := range []struct{ percent, have, least int }{
		{1, 1, 1}, {1, 50, 50}, {2, 50, 49}, {10, 10, 9}, {10, 19, 18}, {10, 9, 9}, {10, 20, 18},
		{50, 1, 1}, {50, 2, 1}, {50, 3, 2}, {50, 8, 4}, {99, 1, 1}, {99, 50, 1}, {100, 1, 0}, {100, 50, 0},
		{1000, 50, 0}, {100000, 50, 0}, {33, 3, 3}, {34, 3, 2},
	} {
		settle(t, downOnly(0, 0, x.percent, 7), step{0, x.have, 0, x.least})
	}
	// Its base is what there was ahead of the period.
	settle(t, downOnly(0, 0, 50, 7),
		step{0, 20, 15, 15}, step{3, 15, 1, 10}, step{6, 10, 1, 10}, step{7, 10, 1, 8},
		step{9, 8, 1, 8}, step{10, 8, 1, 5}, step{13, 5, 1, 5}, step{14, 5, 1, 4})
}

func TestP16DownPodsOrPercent(t *testing.T) {
	for _, x := range []struct{ pods, percent, have, least int }{
		{2, 10, 5, 3}, {2, 10, 29, 27}, {2, 10, 30, 27}, {3, 100, 2, 0}, {3, 50, 6, 3}, {3, 50, 8, 4}, {3, 50, 4, 1},
	} {
		settle(t, downOnly(0, x.pods, x.percent, 7), step{0, x.have, 0, x.least})
	}
}

// Pods that came some other way: as many as shrank are counted to them,
// also where that is more than there may be.
func TestP16DownBaseIsAboveMaxPods(t *testing.T) {
	settle(t, downOnly(0, 0, 50, 5), step{0, 50, 0, 25}, step{1, 50, 0, 38}, step{2, 50, 0, 44}, step{3, 50, 0, 47})
	settle(t, downOnly(0, 30, 0, 5), step{0, 50, 0, 20}, step{1, 50, 0, 50}, step{2, 10, 0, 10})
}

// A pace without a period bounds nothing, and a period without a pace.
func TestP16NoBound(t *testing.T) {
	for _, p := range []api.Pace{
		{Pods: 1}, {Percent: 1}, {Pods: 1, Percent: 1}, {Period: 5}, {Period: 100000},
		{Pods: -1, Period: 5}, {Percent: -1, Period: 5}, {Pods: 1, Period: -5}, {Pods: 1, Percent: 1, Period: math.MinInt},
	} {
		settle(t, New(p, p), step{0, 1, 50, 50}, step{0, 50, 0, 0}, step{1, 0, 50, 50}, step{2, 50, 1, 1})
	}
}

// Windows and paces bind both.
func TestP16WindowAndPace(t *testing.T) {
	s := New(api.Pace{Window: 3, Pods: 2, Period: 5}, api.Pace{Window: 4, Percent: 50, Period: 10})
	settle(t, s,
		step{0, 1, 9, 3}, step{1, 3, 9, 3}, step{5, 3, 9, 5}, step{6, 5, 6, 5},
		step{7, 5, 1, 5}, step{11, 8, 1, 4}, step{12, 4, 1, 4}, step{30, 4, 1, 2})
	// What the window holds back is not counted as grown.
	settle(t, upOnly(4, 3, 0, 9), step{0, 2, 3, 3}, step{1, 3, 9, 3}, step{4, 3, 9, 5}, step{8, 5, 9, 5}, step{9, 5, 9, 6})
	settle(t, downOnly(4, 3, 0, 9), step{0, 9, 8, 8}, step{1, 8, 2, 8}, step{4, 8, 2, 6}, step{8, 6, 2, 6}, step{9, 6, 2, 5})
}

// As many as there are stay, and what is wanted is known.
func TestP16WantIsHave(t *testing.T) {
	pace := api.Pace{Window: 5, Pods: 1, Period: 5}
	for n := range 51 {
		settle(t, New(pace, pace), step{0, n, n, n}, step{1, n, n, n})
	}
	settle(t, New(pace, pace), step{0, 4, 4, 4}, step{4, 3, 9, 4}, step{4, 5, 1, 5})
	settle(t, New(pace, pace), step{0, 4, 4, 4}, step{5, 3, 9, 4}, step{10, 9, 1, 8})
}

// Numbers of a pace above MaxTicks are it, those below 0 are 0: what was
// there before that many ticks is out.
func TestP16NewClips(t *testing.T) {
	for _, n := range []int{100000, 100001, 1 << 50, math.MaxInt} {
		settle(t, upOnly(n, 0, 0, 0), step{1, 2, 4, 4}, step{100000, 2, 9, 4}, step{100001, 2, 9, 9})
		settle(t, downOnly(n, 0, 0, 0), step{1, 9, 4, 4}, step{100000, 9, 2, 4}, step{100001, 9, 2, 2})
		settle(t, upOnly(0, 1, 0, n), step{1, 2, 9, 3}, step{100000, 3, 9, 3}, step{100001, 3, 9, 4})
		settle(t, downOnly(0, 1, 0, n), step{1, 9, 2, 8}, step{100000, 8, 2, 8}, step{100001, 8, 2, 7})
		settle(t, upOnly(0, n, 0, 1), step{1, 0, 50, 50})
		settle(t, upOnly(0, 0, n, 1), step{1, 1, 50, 50})
		settle(t, downOnly(0, n, 0, 1), step{1, 50, 0, 0})
		settle(t, downOnly(0, 0, n, 1), step{1, 50, 0, 0})
	}
	settle(t, upOnly(99999, 0, 0, 0), step{1, 2, 4, 4}, step{99999, 2, 9, 4}, step{100000, 2, 9, 9})
	for _, n := range []int{0, -1, -100000, math.MinInt} {
		settle(t, upOnly(n, 0, 0, 0), step{1, 2, 4, 4}, step{1, 2, 9, 9})
		settle(t, downOnly(n, 0, 0, 0), step{1, 9, 4, 4}, step{1, 9, 2, 2})
		settle(t, upOnly(0, 1, 0, n), step{1, 2, 9, 9})
		settle(t, downOnly(0, 1, 0, n), step{1, 9, 2, 2})
		settle(t, upOnly(0, n, 10, 5), step{1, 10, 20, 11})
		settle(t, upOnly(0, 1, n, 5), step{1, 10, 20, 11})
		settle(t, upOnly(0, n, n, 5), step{1, 10, 20, 20})
		settle(t, downOnly(0, n, 10, 5), step{1, 10, 0, 9})
		settle(t, downOnly(0, 1, n, 5), step{1, 10, 0, 9})
		settle(t, downOnly(0, n, n, 5), step{1, 10, 0, 0})
	}
}

// Pods of a pace that is clipped are still a bound: it is seen when more
// than that many have shrunk within a period.
func TestP16NewClipsPods(t *testing.T) {
	s := downOnly(0, math.MaxInt, 0, 100)
	for range 2000 {
		settle(t, s, step{0, 50, 0, 0})
	}
	settle(t, s, step{1, 50, 0, 50}, step{99, 1, 0, 1}, step{100, 50, 0, 0})
}
