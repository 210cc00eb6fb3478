package fleet

import (
	"math"
	"slices"
	"testing"

	"tidewheel/api"
)

func wantScale(t testing.TB, f *Fleet, n int, want api.Errno) {
	t.Helper()
	if e := f.Scale(n); e != want {
		t.Errorf("Scale(%d) = %d, not %d", n, e, want)
	}
}

func wantStart(t testing.TB, f *Fleet, id int, want api.Errno) {
	t.Helper()
	if e := f.Start(id); e != want {
		t.Errorf("Start(%d) = %d, not %d", id, e, want)
	}
}

func wantReady(t testing.TB, f *Fleet, id int, want api.Errno) {
	t.Helper()
	if e := f.Ready(id); e != want {
		t.Errorf("Ready(%d) = %d, not %d", id, e, want)
	}
}

func wantCrash(t testing.TB, f *Fleet, id, want int, wantE api.Errno) {
	t.Helper()
	if load, e := f.Crash(id); load != want || e != wantE {
		t.Errorf("Crash(%d) = %d, %d, not %d, %d", id, load, e, want, wantE)
	}
}

func wantGive(t testing.TB, f *Fleet, want int, wantE api.Errno) {
	t.Helper()
	if id, e := f.Give(); id != want || e != wantE {
		t.Errorf("Give() = %d, %d, not %d, %d", id, e, want, wantE)
	}
}

func wantDone(t testing.TB, f *Fleet, id int, want api.Errno) {
	t.Helper()
	if e := f.Done(id); e != want {
		t.Errorf("Done(%d) = %d, not %d", id, e, want)
	}
}

// wantAll holds Count, too, against the pods that are wanted.
func wantAll(t testing.TB, f *Fleet, want ...api.Pod) {
	t.Helper()
	if l := f.All(); !slices.Equal(l, want) {
		t.Errorf("All() = %v, not %v", l, want)
	}
	count := 0
	for _, p := range want {
		if p.State != api.SDraining {
			count++
		}
	}
	if n := f.Count(); n != count {
		t.Errorf("Count() = %d, not %d", n, count)
	}
}

func pending(id int) api.Pod { return api.Pod{Id: id, State: api.SPending} }

func starting(id int) api.Pod { return api.Pod{Id: id, State: api.SStarting} }

func ready(id, load int) api.Pod { return api.Pod{Id: id, State: api.SReady, Load: load} }

func draining(id, load int) api.Pod { return api.Pod{Id: id, State: api.SDraining, Load: load} }

// makeReady has a pod that is SPending start, and be SReady.
func makeReady(t testing.TB, f *Fleet, id int) {
	t.Helper()
	wantStart(t, f, id, api.OK)
	wantReady(t, f, id, api.OK)
}

// newFleet has one SReady pod a load, by numbers from 1 on. The field is
// written, since Give chooses pods by itself.
func newFleet(t testing.TB, most int, loads ...int) *Fleet {
	t.Helper()
	f := New(most)
	wantScale(t, f, len(loads), api.OK)
	for i, load := range loads {
		makeReady(t, f, i+1)
		f.pods[i].Load = load
	}
	return f
}

func TestP17New(t *testing.T) {
	f := New(3)
	wantAll(t, f)
	wantGive(t, f, 0, api.ErrNone)
	for _, id := range []int{-1, 0, 1, 2} {
		wantStart(t, f, id, api.ErrNone)
		wantReady(t, f, id, api.ErrNone)
		wantDone(t, f, id, api.ErrNone)
		wantCrash(t, f, id, 0, api.ErrNone)
	}
	wantScale(t, f, 0, api.OK)
	wantAll(t, f)
	wantScale(t, f, 1, api.OK)
	wantAll(t, f, pending(1))
}

// How many things a pod may do at once is from 1 to 100.
func TestP17Most(t *testing.T) {
	for _, x := range []struct{ most, want int }{
		{math.MinInt, 1}, {-100, 1}, {-1, 1}, {0, 1}, {1, 1}, {2, 2}, {7, 7}, {99, 99}, {100, 100}, {101, 100}, {1000, 100}, {math.MaxInt, 100},
	} {
		f := newFleet(t, x.most, 0)
		for range x.want {
			wantGive(t, f, 1, api.OK)
		}
		wantGive(t, f, 0, api.ErrNone)
		wantAll(t, f, ready(1, x.want))
		wantDone(t, f, 1, api.OK)
		wantGive(t, f, 1, api.OK)
		wantGive(t, f, 0, api.ErrNone)
	}
}

func TestP17ScaleMakesPods(t *testing.T) {
	f := New(1)
	wantScale(t, f, 2, api.OK)
	wantAll(t, f, pending(1), pending(2))
	wantScale(t, f, 2, api.OK)
	wantAll(t, f, pending(1), pending(2))
	makeReady(t, f, 1)
	wantScale(t, f, 4, api.OK)
	wantAll(t, f, ready(1, 0), pending(2), pending(3), pending(4))
}

func TestP17ScaleBounds(t *testing.T) {
	f := newFleet(t, 2, 1, 0)
	for _, n := range []int{math.MinInt, -50, -1, 51, 52, 100, math.MaxInt} {
		wantScale(t, f, n, api.ErrArg)
		wantAll(t, f, ready(1, 1), ready(2, 0))
	}
	for n := range 51 {
		g := New(1)
		wantScale(t, g, n, api.OK)
		var want []api.Pod
		for id := 1; id <= n; id++ {
			want = append(want, pending(id))
		}
		wantAll(t, g, want...)
		wantScale(t, g, 51, api.ErrArg)
		wantScale(t, g, 0, api.OK)
		wantAll(t, g)
		wantScale(t, g, 50, api.OK)
		if l := g.All(); len(l) != 50 || l[0] != pending(n+1) || l[49] != pending(n+50) {
			t.Errorf("after %d pods: %v", n, l)
		}
	}
}

// The number of a pod that is gone does not come again, in whichever way
// it went.
func TestP17NumbersGoOn(t *testing.T) {
	f := New(1)
	wantScale(t, f, 3, api.OK)
	wantScale(t, f, 1, api.OK)
	wantScale(t, f, 2, api.OK)
	wantAll(t, f, pending(1), pending(4))
	wantCrash(t, f, 4, 0, api.OK)
	wantScale(t, f, 2, api.OK)
	wantAll(t, f, pending(1), pending(5))
	wantScale(t, f, 0, api.OK)
	wantScale(t, f, 1, api.OK)
	wantAll(t, f, pending(6))
	makeReady(t, f, 6)
	wantGive(t, f, 6, api.OK)
	wantScale(t, f, 0, api.OK)
	wantDone(t, f, 6, api.OK)
	wantAll(t, f)
	wantScale(t, f, 1, api.OK)
	wantAll(t, f, pending(7))
}

// Those that are SPending go first, then those that are SStarting,
// whatever their numbers, and of each the one with the greatest number.
func TestP17ScaleOrderOfStates(t *testing.T) {
	f := New(2)
	wantScale(t, f, 7, api.OK)
	for _, id := range []int{2, 3, 6, 7} {
		wantStart(t, f, id, api.OK)
	}
	wantReady(t, f, 3, api.OK)
	wantReady(t, f, 7, api.OK)
	wantGive(t, f, 3, api.OK)
	for _, want := range [][]api.Pod{
		{pending(1), starting(2), ready(3, 1), pending(4), starting(6), ready(7, 0)},
		{pending(1), starting(2), ready(3, 1), starting(6), ready(7, 0)},
		{starting(2), ready(3, 1), starting(6), ready(7, 0)},
		{starting(2), ready(3, 1), ready(7, 0)},
		{ready(3, 1), ready(7, 0)},
		{ready(3, 1)},
	} {
		wantScale(t, f, len(want), api.OK)
		wantAll(t, f, want...)
	}
	wantScale(t, f, 0, api.OK)
	wantAll(t, f, draining(3, 1))
}

// Of those that are SReady the one with the least Load goes, of these the
// one with the greatest number; with a Load it is SDraining.
func TestP17ScaleOrderOfLoads(t *testing.T) {
	f := newFleet(t, 3, 1, 0, 2, 0, 1, 3)
	wantScale(t, f, 5, api.OK)
	wantAll(t, f, ready(1, 1), ready(2, 0), ready(3, 2), ready(5, 1), ready(6, 3))
	wantScale(t, f, 4, api.OK)
	wantAll(t, f, ready(1, 1), ready(3, 2), ready(5, 1), ready(6, 3))
	wantScale(t, f, 3, api.OK)
	wantAll(t, f, ready(1, 1), ready(3, 2), draining(5, 1), ready(6, 3))
	wantScale(t, f, 1, api.OK)
	wantAll(t, f, draining(1, 1), draining(3, 2), draining(5, 1), ready(6, 3))
	wantScale(t, f, 0, api.OK)
	wantAll(t, f, draining(1, 1), draining(3, 2), draining(5, 1), draining(6, 3))
}

// One call does the same as one call a pod.
func TestP17ScaleByMany(t *testing.T) {
	f := newFleet(t, 3, 1, 0, 2, 0, 1, 3)
	wantScale(t, f, 9, api.OK)
	wantStart(t, f, 8, api.OK)
	wantScale(t, f, 2, api.OK)
	wantAll(t, f, draining(1, 1), ready(3, 2), draining(5, 1), ready(6, 3))
}

// A pod that is SDraining is not counted: it is in no one's place, is not
// taken back, and goes no second time.
func TestP17ScaleBesideDraining(t *testing.T) {
	f := newFleet(t, 2, 2, 1, 2)
	wantScale(t, f, 1, api.OK)
	wantAll(t, f, ready(1, 2), draining(2, 1), draining(3, 2))
	wantScale(t, f, 1, api.OK)
	wantAll(t, f, ready(1, 2), draining(2, 1), draining(3, 2))
	wantScale(t, f, 3, api.OK)
	wantAll(t, f, ready(1, 2), draining(2, 1), draining(3, 2), pending(4), pending(5))
	makeReady(t, f, 5)
	wantGive(t, f, 5, api.OK)
	// 2 has no more to do than 5, and stands ahead of it.
	wantScale(t, f, 1, api.OK)
	wantAll(t, f, ready(1, 2), draining(2, 1), draining(3, 2), draining(5, 1))
	wantScale(t, f, 50, api.OK)
	if n, all := f.Count(), len(f.All()); n != 50 || all != 53 {
		t.Errorf("%d of %d pods aren't SDraining", n, all)
	}
}

func TestP18StartAndReady(t *testing.T) {
	f := New(1)
	wantScale(t, f, 3, api.OK)
	wantReady(t, f, 2, api.ErrState)
	wantAll(t, f, pending(1), pending(2), pending(3))
	wantStart(t, f, 2, api.OK)
	wantAll(t, f, pending(1), starting(2), pending(3))
	wantStart(t, f, 2, api.ErrState)
	wantAll(t, f, pending(1), starting(2), pending(3))
	wantReady(t, f, 2, api.OK)
	wantAll(t, f, pending(1), ready(2, 0), pending(3))
	wantStart(t, f, 2, api.ErrState)
	wantReady(t, f, 2, api.ErrState)
	wantGive(t, f, 2, api.OK)
	wantScale(t, f, 0, api.OK)
	wantStart(t, f, 2, api.ErrState)
	wantReady(t, f, 2, api.ErrState)
	wantAll(t, f, draining(2, 1))
}

func TestP18NoSuchPod(t *testing.T) {
	f := newFleet(t, 2, 1, 0, 2)
	wantScale(t, f, 5, api.OK)
	wantCrash(t, f, 4, 0, api.OK)
	for _, id := range []int{math.MinInt, -1, 0, 4, 6, 50, math.MaxInt} {
		wantStart(t, f, id, api.ErrNone)
		wantReady(t, f, id, api.ErrNone)
		wantDone(t, f, id, api.ErrNone)
		wantCrash(t, f, id, 0, api.ErrNone)
	}
	wantAll(t, f, ready(1, 1), ready(2, 0), ready(3, 2), pending(5))
}

func TestP18Crash(t *testing.T) {
	f := newFleet(t, 4, 2, 0, 4, 3)
	wantScale(t, f, 6, api.OK)
	wantStart(t, f, 5, api.OK)
	for _, x := range []struct{ id, load int }{{5, 0}, {6, 0}, {2, 0}, {4, 3}} {
		wantCrash(t, f, x.id, x.load, api.OK)
		wantCrash(t, f, x.id, 0, api.ErrNone)
	}
	wantAll(t, f, ready(1, 2), ready(3, 4))
	wantScale(t, f, 1, api.OK)
	wantAll(t, f, draining(1, 2), ready(3, 4))
	wantCrash(t, f, 1, 2, api.OK)
	wantAll(t, f, ready(3, 4))
	wantCrash(t, f, 3, 4, api.OK)
	wantAll(t, f)
	wantGive(t, f, 0, api.ErrNone)
}

// Of the least Load, and of these the least number; only those that are
// SReady, and have room.
func TestP18Give(t *testing.T) {
	f := newFleet(t, 3, 2, 1, 0, 1)
	for _, id := range []int{3, 2, 3, 4, 1, 2, 3, 4} {
		wantGive(t, f, id, api.OK)
	}
	wantAll(t, f, ready(1, 3), ready(2, 3), ready(3, 3), ready(4, 3))
	wantGive(t, f, 0, api.ErrNone)
	wantAll(t, f, ready(1, 3), ready(2, 3), ready(3, 3), ready(4, 3))
	wantDone(t, f, 3, api.OK)
	wantDone(t, f, 2, api.OK)
	wantDone(t, f, 3, api.OK)
	for _, id := range []int{3, 2, 3} {
		wantGive(t, f, id, api.OK)
	}
	wantGive(t, f, 0, api.ErrNone)
}

func TestP18GiveOnlyIfReady(t *testing.T) {
	f := New(3)
	wantScale(t, f, 3, api.OK)
	wantGive(t, f, 0, api.ErrNone)
	wantStart(t, f, 1, api.OK)
	wantStart(t, f, 3, api.OK)
	wantGive(t, f, 0, api.ErrNone)
	wantReady(t, f, 3, api.OK)
	wantGive(t, f, 3, api.OK)
	wantGive(t, f, 3, api.OK)
	wantReady(t, f, 1, api.OK)
	wantGive(t, f, 1, api.OK)
	wantScale(t, f, 1, api.OK)
	wantAll(t, f, draining(1, 1), ready(3, 2))
	// 1 has less to do, but takes nothing more.
	wantGive(t, f, 3, api.OK)
	wantGive(t, f, 0, api.ErrNone)
	wantScale(t, f, 0, api.OK)
	wantGive(t, f, 0, api.ErrNone)
	wantAll(t, f, draining(1, 1), draining(3, 3))
}

func TestP18Done(t *testing.T) {
	f := newFleet(t, 2, 2, 0)
	wantScale(t, f, 4, api.OK)
	wantStart(t, f, 3, api.OK)
	for id := 2; id <= 4; id++ {
		wantDone(t, f, id, api.ErrState)
	}
	wantDone(t, f, 1, api.OK)
	wantAll(t, f, ready(1, 1), ready(2, 0), starting(3), pending(4))
	wantDone(t, f, 1, api.OK)
	// It has nothing to do, but isn't SDraining: it stays.
	wantDone(t, f, 1, api.ErrState)
	wantAll(t, f, ready(1, 0), ready(2, 0), starting(3), pending(4))
	wantGive(t, f, 1, api.OK)
}

// Who is drained does what it has, and is gone then.
func TestP18DoneOfDraining(t *testing.T) {
	f := newFleet(t, 3, 3, 1, 2)
	wantScale(t, f, 1, api.OK)
	wantDone(t, f, 3, api.OK)
	wantAll(t, f, ready(1, 3), draining(2, 1), draining(3, 1))
	wantDone(t, f, 2, api.OK)
	wantAll(t, f, ready(1, 3), draining(3, 1))
	wantDone(t, f, 2, api.ErrNone)
	wantDone(t, f, 3, api.OK)
	wantDone(t, f, 3, api.ErrNone)
	wantAll(t, f, ready(1, 3))
}

func TestP18AllAndCount(t *testing.T) {
	f := newFleet(t, 2, 1, 2, 1)
	wantScale(t, f, 4, api.OK)
	wantAll(t, f, ready(1, 1), ready(2, 2), ready(3, 1), pending(4))
	wantScale(t, f, 2, api.OK)
	wantScale(t, f, 3, api.OK)
	// 5 stands behind those that are SDraining: by number, not by state.
	wantAll(t, f, ready(1, 1), ready(2, 2), draining(3, 1), pending(5))
	wantStart(t, f, 5, api.OK)
	wantCrash(t, f, 1, 1, api.OK)
	wantAll(t, f, ready(2, 2), draining(3, 1), starting(5))
}
