package buffer

import (
	"math"
	"slices"
	"testing"

	"tidewheel/api"
)

// clock is MaxClock as the document writes it.
const clock = 1 << 40

func wantAsk(t testing.TB, b *Buffer, now, source, ticks, want int, wantE api.Errno) {
	t.Helper()
	if id, e := b.Ask(now, source, ticks); id != want || e != wantE {
		t.Errorf("Ask(%d, %d, %d) = %d, %d, not %d, %d", now, source, ticks, id, e, want, wantE)
	}
}

func wantLate(t testing.TB, b *Buffer, now int, want ...int) {
	t.Helper()
	if l, e := b.Late(now); !slices.Equal(l, want) || e != api.OK {
		t.Errorf("Late(%d) = %v, %d, not %v, OK", now, l, e, want)
	}
}

func wantLateArg(t testing.TB, b *Buffer, now int) {
	t.Helper()
	if l, e := b.Late(now); len(l) != 0 || e != api.ErrArg {
		t.Errorf("Late(%d) = %v, %d, not none, ErrArg", now, l, e)
	}
}

// wantNext is handed 0, where none is next.
func wantNext(t testing.TB, b *Buffer, want int) {
	t.Helper()
	if id, ok := b.Next(); id != want || ok != (want != 0) {
		t.Errorf("Next() = %d, %t, not %d, %t", id, ok, want, want != 0)
	}
}

func wantRun(t testing.TB, b *Buffer, id, pod int, want api.Errno) {
	t.Helper()
	if e := b.Run(id, pod); e != want {
		t.Errorf("Run(%d, %d) = %d, not %d", id, pod, e, want)
	}
}

func wantDone(t testing.TB, b *Buffer, id, want int, wantE api.Errno) {
	t.Helper()
	if pod, e := b.Done(id); pod != want || e != wantE {
		t.Errorf("Done(%d) = %d, %d, not %d, %d", id, pod, e, want, wantE)
	}
}

func wantLost(t testing.TB, b *Buffer, pod int, want ...int) {
	t.Helper()
	if l := b.Lost(pod); !slices.Equal(l, want) {
		t.Errorf("Lost(%d) = %v, not %v", pod, l, want)
	}
}

// wantAll holds Count, too, against the requests that are wanted.
func wantAll(t testing.TB, b *Buffer, want ...api.Request) {
	t.Helper()
	if l := b.All(); !slices.Equal(l, want) {
		t.Errorf("All() = %v, not %v", l, want)
	}
	fates := map[int]int{}
	for _, r := range want {
		fates[r.Fate]++
	}
	if w, r := b.Count(); w != fates[api.FWaits] || r != fates[api.FRuns] {
		t.Errorf("Count() = %d, %d, not %d, %d", w, r, fates[api.FWaits], fates[api.FRuns])
	}
}

// wantFates asks of each request its fate alone.
func wantFates(t testing.TB, b *Buffer, want ...int) {
	t.Helper()
	var fates []int
	for _, r := range b.All() {
		fates = append(fates, r.Fate)
	}
	if !slices.Equal(fates, want) {
		t.Errorf("fates are %v, not %v", fates, want)
	}
}

// newBuffer has one request a source, by numbers from 1 on; each came at
// 0, and may wait 100 ticks.
func newBuffer(t testing.TB, sources ...int) *Buffer {
	t.Helper()
	b := New()
	for i, source := range sources {
		wantAsk(t, b, 0, source, 100, i+1, api.OK)
	}
	return b
}

func request(id, source, till, fate, pod int) api.Request {
	return api.Request{Id: id, Source: source, Till: till, Fate: fate, Pod: pod}
}

func TestP19New(t *testing.T) {
	b := New()
	wantAll(t, b)
	wantNext(t, b, 0)
	wantLate(t, b, 0)
	wantLate(t, b, clock)
	wantLost(t, b, 0)
	for _, id := range []int{-1, 0, 1, 2} {
		wantRun(t, b, id, 1, api.ErrNone)
		wantDone(t, b, id, 0, api.ErrNone)
	}
	wantAll(t, b)
}

func TestP19Ask(t *testing.T) {
	b := New()
	wantAsk(t, b, 7, 5, 3, 1, api.OK)
	wantAsk(t, b, 0, 0, 1, 2, api.OK)
	wantAsk(t, b, 4, 5, 100000, 3, api.OK)
	wantAsk(t, b, clock, 2, 100000, 4, api.OK)
	wantAll(t, b, request(1, 5, 10, 1, 0), request(2, 0, 1, 1, 0), request(3, 5, 100004, 1, 0), request(4, 2, clock+100000, 1, 0))
}

func TestP19AskWrong(t *testing.T) {
	b := newBuffer(t, 3)
	for _, now := range []int{math.MinInt, -clock, -1, clock + 1, math.MaxInt} {
		wantAsk(t, b, now, 3, 1, 0, api.ErrArg)
	}
	for _, ticks := range []int{math.MinInt, -1, 0, 100001, math.MaxInt} {
		wantAsk(t, b, 0, 3, ticks, 0, api.ErrArg)
	}
	for _, source := range []int{math.MinInt, -1, 6, 7, math.MaxInt} {
		wantAsk(t, b, 0, source, 1, 0, api.ErrNone)
		// ErrArg is told first.
		wantAsk(t, b, -1, source, 1, 0, api.ErrArg)
		wantAsk(t, b, 0, source, 0, 0, api.ErrArg)
	}
	wantAll(t, b, request(1, 3, 100, 1, 0))
	// A number that was not given is not lost.
	for source := range 6 {
		wantAsk(t, b, 0, source, 1, source+2, api.OK)
	}
}

// Twenty of a source may wait, whatever the others have; what runs, or is
// over, does not count.
func TestP19AskFullSource(t *testing.T) {
	b := newBuffer(t, 4, 4)
	for id := 3; id <= 22; id++ {
		wantAsk(t, b, 0, 2, id, id, api.OK)
	}
	wantAsk(t, b, 0, 2, 1, 0, api.ErrFull)
	wantAsk(t, b, 0, 4, 1, 23, api.OK)
	wantRun(t, b, 1, 1, api.OK)
	wantAsk(t, b, 0, 2, 1, 0, api.ErrFull)
	wantRun(t, b, 3, 1, api.OK)
	wantAsk(t, b, 0, 2, 90, 24, api.OK)
	wantAsk(t, b, 0, 2, 1, 0, api.ErrFull)
	wantDone(t, b, 3, 1, api.OK)
	wantAsk(t, b, 0, 2, 1, 0, api.ErrFull)
	wantLate(t, b, 5, 4, 5, 23)
	wantAsk(t, b, 5, 2, 90, 25, api.OK)
	wantAsk(t, b, 5, 2, 90, 26, api.OK)
	wantAsk(t, b, 5, 2, 90, 0, api.ErrFull)
}

// One that is late, but was not told so, waits still, and takes room.
func TestP19AskBesideThoseThatAreDue(t *testing.T) {
	b := New()
	for id := 1; id <= 20; id++ {
		wantAsk(t, b, 0, 1, 1, id, api.OK)
	}
	wantAsk(t, b, 50, 1, 1, 0, api.ErrFull)
	wantNext(t, b, 1)
	wantRun(t, b, 1, 9, api.OK)
	wantAsk(t, b, 50, 1, 1, 21, api.OK)
}

// Sixty may wait in all, though no source is full; what runs does not
// count.
func TestP19AskFullInAll(t *testing.T) {
	b := New()
	for i := range 60 {
		wantAsk(t, b, 0, i%6, 100, i+1, api.OK)
	}
	for source := range 6 {
		wantAsk(t, b, 0, source, 100, 0, api.ErrFull)
	}
	wantRun(t, b, 3, 1, api.OK)
	wantAsk(t, b, 0, 5, 1, 61, api.OK)
	wantAsk(t, b, 0, 2, 1, 0, api.ErrFull)
	wantDone(t, b, 3, 1, api.OK)
	wantAsk(t, b, 0, 2, 1, 0, api.ErrFull)
	wantLate(t, b, 1, 61)
	wantAsk(t, b, 1, 0, 1, 62, api.OK)
	wantAsk(t, b, 1, 2, 1, 0, api.ErrFull)
	if w, r := b.Count(); w != 60 || r != 0 {
		t.Errorf("Count() = %d, %d, not 60, 0", w, r)
	}
}

// There are two hundred requests at most, those that are over among them.
func TestP19AskFullOfRequests(t *testing.T) {
	b := New()
	for id := 1; id <= 200; id++ {
		wantAsk(t, b, id, id%6, 1, id, api.OK)
		switch id % 4 {
		case 0:
			wantLate(t, b, id+1, id)
		case 1:
			wantRun(t, b, id, id, api.OK)
			wantLost(t, b, id, id)
		default:
			wantRun(t, b, id, id, api.OK)
			wantDone(t, b, id, id, api.OK)
		}
	}
	for source := range 6 {
		wantAsk(t, b, 201, source, 1, 0, api.ErrFull)
	}
	wantAsk(t, b, 201, 6, 1, 0, api.ErrNone)
	wantAsk(t, b, 201, -1, 1, 0, api.ErrNone)
	wantAsk(t, b, 201, 6, 0, 0, api.ErrArg)
	wantAsk(t, b, 201, 0, 0, 0, api.ErrArg)
	if l := b.All(); len(l) != 200 || l[0] != request(1, 1, 2, 5, 1) || l[199] != request(200, 2, 201, 4, 0) {
		t.Errorf("there are %d: %v", len(l), l)
	}
}

// A request is late at its Till, not ahead of it, and only once.
func TestP19Late(t *testing.T) {
	b := New()
	for i, ticks := range []int{5, 3, 9, 3, 4} {
		wantAsk(t, b, 10, i%3, ticks, i+1, api.OK)
	}
	wantLate(t, b, 0)
	wantLate(t, b, 12)
	wantFates(t, b, 1, 1, 1, 1, 1)
	wantLate(t, b, 13, 2, 4)
	wantLate(t, b, 13)
	wantFates(t, b, 1, 4, 1, 4, 1)
	wantLate(t, b, 18, 1, 5)
	// An earlier time takes nothing back.
	wantLate(t, b, 12)
	wantLate(t, b, clock, 3)
	wantAll(t, b, request(1, 0, 15, 4, 0), request(2, 1, 13, 4, 0), request(3, 2, 19, 4, 0), request(4, 0, 13, 4, 0), request(5, 1, 14, 4, 0))
	wantNext(t, b, 0)
}

func TestP19LateWrong(t *testing.T) {
	b := newBuffer(t, 0, 1)
	for _, now := range []int{math.MinInt, -1, clock + 1, math.MaxInt} {
		wantLateArg(t, b, now)
	}
	wantFates(t, b, 1, 1)
	wantLate(t, b, 99)
	wantLate(t, b, 100, 1, 2)
}

// At the clock's end a request may wait beyond it, and is never late.
func TestP19LateAtTheClocksEnd(t *testing.T) {
	b := New()
	wantAsk(t, b, clock, 0, 1, 1, api.OK)
	wantAsk(t, b, clock-1, 0, 1, 2, api.OK)
	wantLate(t, b, clock-1)
	wantLate(t, b, clock, 2)
	wantFates(t, b, 1, 4)
}

// Only those that wait are late: not one that runs, or that is over.
func TestP19LateOnlyIfItNeverRan(t *testing.T) {
	b := newBuffer(t, 0, 1, 2, 3)
	wantRun(t, b, 1, 7, api.OK)
	wantRun(t, b, 2, 8, api.OK)
	wantRun(t, b, 3, 9, api.OK)
	wantDone(t, b, 2, 8, api.OK)
	wantLost(t, b, 9, 3)
	wantLate(t, b, 100, 4)
	wantAll(t, b, request(1, 0, 100, 2, 7), request(2, 1, 100, 3, 8), request(3, 2, 100, 5, 9), request(4, 3, 100, 4, 0))
	wantLate(t, b, clock)
	wantDone(t, b, 1, 7, api.OK)
}

// The least number of those that wait, whatever their sources; one whose
// source has one that runs is passed over.
func TestP20Next(t *testing.T) {
	b := newBuffer(t, 3, 3, 5, 0, 5)
	wantNext(t, b, 1)
	// Asking changes nothing.
	wantNext(t, b, 1)
	wantRun(t, b, 1, 1, api.OK)
	wantNext(t, b, 3)
	wantRun(t, b, 3, 1, api.OK)
	wantNext(t, b, 4)
	wantRun(t, b, 4, 2, api.OK)
	wantNext(t, b, 0)
	wantDone(t, b, 3, 1, api.OK)
	wantNext(t, b, 5)
	wantDone(t, b, 1, 1, api.OK)
	wantNext(t, b, 2)
	wantRun(t, b, 2, 1, api.OK)
	wantRun(t, b, 5, 1, api.OK)
	wantNext(t, b, 0)
	wantDone(t, b, 4, 2, api.OK)
	wantNext(t, b, 0)
	wantFates(t, b, 3, 2, 3, 3, 2)
}

// One that is late, or failed, is in nobody's way.
func TestP20NextBehindThoseThatAreOver(t *testing.T) {
	b := New()
	wantAsk(t, b, 0, 1, 2, 1, api.OK)
	wantAsk(t, b, 0, 1, 9, 2, api.OK)
	wantAsk(t, b, 0, 1, 9, 3, api.OK)
	wantRun(t, b, 2, 4, api.ErrState)
	wantLate(t, b, 2, 1)
	wantNext(t, b, 2)
	wantRun(t, b, 3, 4, api.ErrState)
	wantRun(t, b, 2, 4, api.OK)
	wantNext(t, b, 0)
	wantLost(t, b, 4, 2)
	wantNext(t, b, 3)
	wantRun(t, b, 3, 4, api.OK)
	wantFates(t, b, 4, 5, 2)
}

// Sources are apart: the first one of each may run, in any order.
func TestP20Run(t *testing.T) {
	b := newBuffer(t, 1, 1, 4, 4, 0)
	wantRun(t, b, 2, 7, api.ErrState)
	wantRun(t, b, 4, 7, api.ErrState)
	wantRun(t, b, 3, 7, api.OK)
	wantRun(t, b, 5, 8, api.OK)
	wantAll(t, b, request(1, 1, 100, 1, 0), request(2, 1, 100, 1, 0), request(3, 4, 100, 2, 7), request(4, 4, 100, 1, 0), request(5, 0, 100, 2, 8))
	wantRun(t, b, 4, 7, api.ErrState)
	wantRun(t, b, 4, 9, api.ErrState)
	wantRun(t, b, 1, 7, api.OK)
	wantRun(t, b, 2, 7, api.ErrState)
	wantAll(t, b, request(1, 1, 100, 2, 7), request(2, 1, 100, 1, 0), request(3, 4, 100, 2, 7), request(4, 4, 100, 1, 0), request(5, 0, 100, 2, 8))
}

// A request runs once: not while it runs, nor when it is over.
func TestP20RunOnce(t *testing.T) {
	b := newBuffer(t, 0, 1, 2, 3)
	wantRun(t, b, 1, 7, api.OK)
	wantRun(t, b, 2, 7, api.OK)
	wantRun(t, b, 3, 8, api.OK)
	wantDone(t, b, 2, 7, api.OK)
	wantLost(t, b, 8, 3)
	wantLate(t, b, 100, 4)
	for range 2 {
		for id := 1; id <= 4; id++ {
			wantRun(t, b, id, 9, api.ErrState)
		}
		wantAll(t, b, request(1, 0, 100, 2, 7), request(2, 1, 100, 3, 7), request(3, 2, 100, 5, 8), request(4, 3, 100, 4, 0))
	}
}

// Of a pod nothing is asked: it may have any number.
func TestP20AnyPod(t *testing.T) {
	for _, pod := range []int{math.MinInt, -1, 0, 1, 50, 51, math.MaxInt} {
		b := newBuffer(t, 2, 3, 4)
		wantRun(t, b, 1, pod, api.OK)
		wantRun(t, b, 2, pod, api.OK)
		wantDone(t, b, 1, pod, api.OK)
		// 3 waits, and has no pod, also if pod is 0.
		wantLost(t, b, pod, 2)
		wantLost(t, b, pod)
		wantAll(t, b, request(1, 2, 100, 3, pod), request(2, 3, 100, 5, pod), request(3, 4, 100, 1, 0))
	}
}

func TestP20NoSuchRequest(t *testing.T) {
	b := newBuffer(t, 0, 0)
	wantRun(t, b, 1, 3, api.OK)
	for _, id := range []int{math.MinInt, math.MinInt + 1, -1, 0, 3, 4, 200, math.MaxInt} {
		wantRun(t, b, id, 3, api.ErrNone)
		wantDone(t, b, id, 0, api.ErrNone)
	}
	wantAll(t, b, request(1, 0, 100, 2, 3), request(2, 0, 100, 1, 0))
}

func TestP20Done(t *testing.T) {
	b := newBuffer(t, 0, 1, 2, 3, 4)
	wantDone(t, b, 1, 0, api.ErrState)
	for id := 2; id <= 5; id++ {
		wantRun(t, b, id, 10*id, api.OK)
	}
	wantDone(t, b, 3, 30, api.OK)
	wantDone(t, b, 3, 0, api.ErrState)
	wantLost(t, b, 40, 4)
	wantDone(t, b, 4, 0, api.ErrState)
	wantDone(t, b, 2, 20, api.OK)
	wantLate(t, b, 100, 1)
	wantDone(t, b, 1, 0, api.ErrState)
	wantAll(t, b, request(1, 0, 100, 4, 0), request(2, 1, 100, 3, 20), request(3, 2, 100, 3, 30), request(4, 3, 100, 5, 40), request(5, 4, 100, 2, 50))
}

// All that run at a pod are lost, no other one.
func TestP20Lost(t *testing.T) {
	b := newBuffer(t, 5, 4, 3, 2, 1, 0, 5)
	for id := 6; id >= 1; id-- {
		wantRun(t, b, id, 1+id%2, api.OK)
	}
	wantLost(t, b, 3)
	wantLost(t, b, 0)
	wantDone(t, b, 3, 2, api.OK)
	wantLost(t, b, 2, 1, 5)
	wantLost(t, b, 2)
	wantFates(t, b, 5, 2, 3, 2, 5, 2, 1)
	// Its source has none that runs any more.
	wantNext(t, b, 7)
	wantRun(t, b, 7, 2, api.OK)
	wantLost(t, b, 1, 2, 4, 6)
	wantLost(t, b, 2, 7)
	wantFates(t, b, 5, 5, 3, 5, 5, 5, 5)
}

func TestP20AllAndCount(t *testing.T) {
	b := newBuffer(t, 2, 2, 0)
	wantAll(t, b, request(1, 2, 100, 1, 0), request(2, 2, 100, 1, 0), request(3, 0, 100, 1, 0))
	wantRun(t, b, 3, 6, api.OK)
	wantAll(t, b, request(1, 2, 100, 1, 0), request(2, 2, 100, 1, 0), request(3, 0, 100, 2, 6))
	wantDone(t, b, 3, 6, api.OK)
	wantAsk(t, b, 1, 0, 1, 4, api.OK)
	wantLate(t, b, 2, 4)
	// They stay, by number, when they are over.
	wantAll(t, b, request(1, 2, 100, 1, 0), request(2, 2, 100, 1, 0), request(3, 0, 100, 3, 6), request(4, 0, 2, 4, 0))
}
