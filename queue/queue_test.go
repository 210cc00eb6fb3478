package queue

import (
	"math"
	"math/rand/v2"
	"slices"
	"testing"

	"tidewheel/api"
)

// clock is MaxClock as the document writes it.
const clock = 1 << 40

func wantPut(t testing.TB, q *Queue, n, want int, wantE api.Errno) {
	t.Helper()
	if id, e := q.Put(n); id != want || e != wantE {
		t.Errorf("Put(%d) = %d, %d, not %d, %d", n, id, e, want, wantE)
	}
}

func wantLease(t testing.TB, q *Queue, now, ticks, want int, wantE api.Errno) {
	t.Helper()
	if id, e := q.Lease(now, ticks); id != want || e != wantE {
		t.Errorf("Lease(%d, %d) = %d, %d, not %d, %d", now, ticks, id, e, want, wantE)
	}
}

func wantAck(t testing.TB, q *Queue, now, id int, want api.Errno) {
	t.Helper()
	if e := q.Ack(now, id); e != want {
		t.Errorf("Ack(%d, %d) = %d, not %d", now, id, e, want)
	}
}

func wantDepth(t testing.TB, q *Queue, now, want int, wantE api.Errno) {
	t.Helper()
	if n, e := q.Depth(now); n != want || e != wantE {
		t.Errorf("Depth(%d) = %d, %d, not %d, %d", now, n, e, want, wantE)
	}
}

func wantAll(t testing.TB, q *Queue, now int, want ...api.Message) {
	t.Helper()
	if l, e := q.All(now); !slices.Equal(l, want) || e != api.OK {
		t.Errorf("All(%d) = %v, %d, not %v, OK", now, l, e, want)
	}
}

func free(id int) api.Message { return api.Message{Id: id} }

func taken(id, till int) api.Message { return api.Message{Id: id, Till: till, Taken: true} }

func newQueue(t testing.TB, n int) *Queue {
	t.Helper()
	q := New()
	wantPut(t, q, n, 1, api.OK)
	return q
}

func TestP11New(t *testing.T) {
	q := New()
	wantAll(t, q, 0)
	wantDepth(t, q, 0, 0, api.OK)
	wantLease(t, q, 0, 1, 0, api.ErrNone)
	wantAck(t, q, 0, 1, api.ErrNone)
	wantAck(t, q, 0, 0, api.ErrNone)
	wantPut(t, q, 1, 1, api.OK)
	wantAll(t, q, 0, free(1))
}

func TestP11Put(t *testing.T) {
	q := New()
	wantPut(t, q, 2, 1, api.OK)
	wantPut(t, q, 1, 3, api.OK)
	wantPut(t, q, 2, 4, api.OK)
	wantAll(t, q, 0, free(1), free(2), free(3), free(4), free(5))
	wantDepth(t, q, 0, 5, api.OK)
	for _, n := range []int{0, -1, -200, math.MinInt} {
		wantPut(t, q, n, 0, api.ErrArg)
	}
	wantDepth(t, q, 0, 5, api.OK)
	wantPut(t, q, 1, 6, api.OK)
}

func TestP11PutFull(t *testing.T) {
	for _, n := range []int{201, 1000, math.MaxInt} {
		q := New()
		wantPut(t, q, n, 0, api.ErrFull)
		wantAll(t, q, 0)
		// A number that was not given is not lost.
		wantPut(t, q, 200, 1, api.OK)
		wantDepth(t, q, 0, 200, api.OK)
		wantPut(t, q, 1, 0, api.ErrFull)
	}
	q := newQueue(t, 150)
	for _, n := range []int{51, 200, math.MaxInt, math.MaxInt - 150, math.MaxInt - 149} {
		wantPut(t, q, n, 0, api.ErrFull)
	}
	wantPut(t, q, 50, 151, api.OK)
	for _, n := range []int{1, 2, math.MaxInt} {
		wantPut(t, q, n, 0, api.ErrFull)
	}
	// ErrArg is told first.
	wantPut(t, q, 0, 0, api.ErrArg)
	wantPut(t, q, -1, 0, api.ErrArg)
	wantDepth(t, q, 0, 200, api.OK)
}

// A message that is taken is there still; one that is gone makes room,
// but its number does not come again.
func TestP11PutAfterAck(t *testing.T) {
	q := newQueue(t, 200)
	wantLease(t, q, 0, 5, 1, api.OK)
	wantLease(t, q, 0, 5, 2, api.OK)
	wantPut(t, q, 1, 0, api.ErrFull)
	wantAck(t, q, 0, 1, api.OK)
	wantPut(t, q, 2, 0, api.ErrFull)
	wantPut(t, q, 1, 201, api.OK)
	wantPut(t, q, 1, 0, api.ErrFull)

	p := newQueue(t, 1)
	for id := 1; id <= 500; id++ {
		wantLease(t, p, 0, 1, id, api.OK)
		wantAck(t, p, 0, id, api.OK)
		wantAll(t, p, 0)
		wantPut(t, p, 1, id+1, api.OK)
		wantAll(t, p, 0, free(id+1))
	}
}

func TestP11Lease(t *testing.T) {
	q := newQueue(t, 3)
	wantLease(t, q, 10, 5, 1, api.OK)
	wantAll(t, q, 10, taken(1, 15), free(2), free(3))
	wantLease(t, q, 11, 2, 2, api.OK)
	wantAll(t, q, 12, taken(1, 15), taken(2, 13), free(3))
	wantDepth(t, q, 12, 1, api.OK)
	wantLease(t, q, 12, 100, 3, api.OK)
	wantLease(t, q, 12, 1, 0, api.ErrNone)
	wantDepth(t, q, 12, 0, api.OK)
	// 2 is back at 13, 1 at 15: it is lent to the next one then.
	wantLease(t, q, 13, 3, 2, api.OK)
	wantAll(t, q, 14, taken(1, 15), taken(2, 16), taken(3, 112))
	wantLease(t, q, 14, 1, 0, api.ErrNone)
	wantLease(t, q, 15, 9, 1, api.OK)
	wantAll(t, q, 15, taken(1, 24), taken(2, 16), taken(3, 112))
}

// The least number is told, not the one that waits longest, or that came
// back first.
func TestP11LeaseTakesTheLeastNumber(t *testing.T) {
	q := newQueue(t, 3)
	wantLease(t, q, 0, 9, 1, api.OK)
	wantLease(t, q, 0, 3, 2, api.OK)
	wantLease(t, q, 0, 6, 3, api.OK)
	wantPut(t, q, 1, 4, api.OK)
	wantDepth(t, q, 8, 3, api.OK)
	wantDepth(t, q, 9, 4, api.OK)
	for id := 1; id <= 4; id++ {
		wantLease(t, q, 9, 1, id, api.OK)
	}
	wantAck(t, q, 9, 1, api.OK)
	wantAck(t, q, 9, 3, api.OK)
	wantLease(t, q, 10, 1, 2, api.OK)
	wantLease(t, q, 10, 1, 4, api.OK)
	wantLease(t, q, 10, 1, 0, api.ErrNone)
}

// Till is the first time at which a message is taken no more.
func TestP11TillIsTheEdge(t *testing.T) {
	for _, now := range []int{0, 7, clock - 100001} {
		for _, ticks := range []int{1, 5, 100000} {
			q := newQueue(t, 1)
			till := now + ticks
			wantLease(t, q, now, ticks, 1, api.OK)
			wantAll(t, q, till-1, taken(1, till))
			wantDepth(t, q, till-1, 0, api.OK)
			wantLease(t, q, till-1, 1, 0, api.ErrNone)
			wantAll(t, q, till, free(1))
			for _, late := range []int{till, till + 1, clock} {
				wantLease(t, q, now, ticks, 1, api.OK)
				wantDepth(t, q, late, 1, api.OK)
				wantLease(t, q, now, ticks, 1, api.OK)
				wantAck(t, q, late, 1, api.ErrState)
				wantLease(t, q, now, ticks, 1, api.OK)
				wantLease(t, q, late, ticks, 1, api.OK)
				wantAll(t, q, late, taken(1, late+ticks))
				wantAck(t, q, late, 1, api.OK)
				wantAll(t, q, late)
				q = newQueue(t, 1)
			}
		}
	}
}

// A Till above MaxClock is told as it is, and never comes.
func TestP11TillAboveTheClock(t *testing.T) {
	q := newQueue(t, 3)
	wantLease(t, q, clock, 100000, 1, api.OK)
	wantLease(t, q, clock, 1, 2, api.OK)
	wantLease(t, q, clock-1, 1, 3, api.OK)
	wantAll(t, q, clock-1, taken(1, clock+100000), taken(2, clock+1), taken(3, clock))
	wantAll(t, q, clock, taken(1, clock+100000), taken(2, clock+1), free(3))
	wantAck(t, q, clock, 1, api.OK)
}

func TestP11Ack(t *testing.T) {
	q := newQueue(t, 4)
	wantAck(t, q, 0, 1, api.ErrState)
	wantLease(t, q, 0, 5, 1, api.OK)
	wantLease(t, q, 0, 5, 2, api.OK)
	wantLease(t, q, 0, 2, 3, api.OK)
	for _, id := range []int{0, -1, 5, 201, math.MinInt, math.MaxInt} {
		wantAck(t, q, 0, id, api.ErrNone)
	}
	wantAll(t, q, 0, taken(1, 5), taken(2, 5), taken(3, 2), free(4))
	wantAck(t, q, 4, 2, api.OK)
	wantAll(t, q, 4, taken(1, 5), free(3), free(4))
	wantAck(t, q, 4, 2, api.ErrNone)
	wantAck(t, q, 4, 3, api.ErrState)
	wantAck(t, q, 4, 4, api.ErrState)
	// It came back at 5, which is too late to be done.
	wantAck(t, q, 5, 1, api.ErrState)
	wantAll(t, q, 5, free(1), free(3), free(4))
	wantLease(t, q, 5, 1, 1, api.OK)
	wantAck(t, q, 5, 1, api.OK)
	wantAck(t, q, 5, 1, api.ErrNone)
	wantDepth(t, q, 5, 2, api.OK)
}

func TestP11NowOutOfBounds(t *testing.T) {
	q := newQueue(t, 2)
	wantLease(t, q, 0, 5, 1, api.OK)
	for _, now := range []int{-1, math.MinInt, clock + 1, math.MaxInt} {
		wantLease(t, q, now, 5, 0, api.ErrArg)
		wantLease(t, q, now, 0, 0, api.ErrArg)
		// ErrArg is told ahead of ErrNone and ErrState.
		for _, id := range []int{0, 1, 2, 3} {
			wantAck(t, q, now, id, api.ErrArg)
		}
		wantDepth(t, q, now, 0, api.ErrArg)
		if l, e := q.All(now); len(l) != 0 || e != api.ErrArg {
			t.Errorf("All(%d) = %v, %d, not none, ErrArg", now, l, e)
		}
		// Above the clock 1 would be back: nothing was given back.
		wantAll(t, q, 0, taken(1, 5), free(2))
	}
	wantLease(t, New(), -1, 5, 0, api.ErrArg)
	wantLease(t, New(), clock+1, 5, 0, api.ErrArg)
	for _, now := range []int{0, clock} {
		q := newQueue(t, 1)
		wantDepth(t, q, now, 1, api.OK)
		wantLease(t, q, now, 1, 1, api.OK)
		wantAll(t, q, now, taken(1, now+1))
		wantAck(t, q, now, 1, api.OK)
	}
}

// Ticks are looked at first: with wrong ones no message is given back,
// as a call with an earlier time shows; and ErrNone is not told.
func TestP11LeaseTicks(t *testing.T) {
	q := newQueue(t, 2)
	wantLease(t, q, 0, 5, 1, api.OK)
	for _, ticks := range []int{0, -1, 100001, math.MinInt, math.MaxInt} {
		wantLease(t, q, 100, ticks, 0, api.ErrArg)
		wantAll(t, q, 0, taken(1, 5), free(2))
		wantLease(t, New(), 0, ticks, 0, api.ErrArg)
	}
	wantLease(t, q, 3, 100000, 2, api.OK)
	wantAll(t, q, 3, taken(1, 5), taken(2, 100003))
}

// What came back at a time stays so at an earlier one, whichever call
// was given the later time, and whatever error it told behind that.
func TestP11GivenBackStays(t *testing.T) {
	for name, call := range map[string]func(*Queue){
		"All":           func(q *Queue) { wantAll(t, q, 5, free(1), taken(2, 9)) },
		"Depth":         func(q *Queue) { wantDepth(t, q, 5, 1, api.OK) },
		"Ack, OK":       func(q *Queue) { wantPut(t, q, 1, 3, api.OK); leaseAndAck(t, q) },
		"Ack, ErrNone":  func(q *Queue) { wantAck(t, q, 5, 7, api.ErrNone) },
		"Ack, ErrState": func(q *Queue) { wantAck(t, q, 5, 1, api.ErrState) },
	} {
		t.Run(name, func(t *testing.T) {
			q := newQueue(t, 2)
			wantLease(t, q, 0, 5, 1, api.OK)
			wantLease(t, q, 0, 9, 2, api.OK)
			call(q)
			wantAll(t, q, 0, free(1), taken(2, 9))
		})
	}
	q := newQueue(t, 2)
	wantLease(t, q, 0, 5, 1, api.OK)
	wantLease(t, q, 0, 5, 2, api.OK)
	wantLease(t, q, 5, 5, 1, api.OK)
	wantAll(t, q, 0, taken(1, 10), free(2))
}

func leaseAndAck(t *testing.T, q *Queue) {
	t.Helper()
	wantLease(t, q, 4, 5, 3, api.OK)
	wantAck(t, q, 5, 3, api.OK)
}

// A Put has no time, and so gives nothing back.
func TestP11PutGivesNothingBack(t *testing.T) {
	q := newQueue(t, 1)
	wantLease(t, q, 50, 1, 1, api.OK)
	wantPut(t, q, 1, 2, api.OK)
	wantAll(t, q, 0, taken(1, 51), free(2))
}

// model says P11 a second time: every message that ever came, at its
// number less 1, with the time at which it is back (0: it isn't taken),
// or -1, when it is gone.
type model struct{ till []int }

func (m *model) put(n int) (int, api.Errno) {
	if n < 1 {
		return 0, api.ErrArg
	}
	if n > 200 || len(m.all())+n > 200 {
		return 0, api.ErrFull
	}
	first := len(m.till) + 1
	m.till = append(m.till, make([]int, n)...)
	return first, api.OK
}

func (m *model) at(now int) bool {
	if now < 0 || now > clock {
		return false
	}
	for i, till := range m.till {
		if till > 0 && now >= till {
			m.till[i] = 0
		}
	}
	return true
}

func (m *model) lease(now, ticks int) (int, api.Errno) {
	if ticks < 1 || ticks > 100000 || !m.at(now) {
		return 0, api.ErrArg
	}
	for i, till := range m.till {
		if till == 0 {
			m.till[i] = now + ticks
			return i + 1, api.OK
		}
	}
	return 0, api.ErrNone
}

func (m *model) ack(now, id int) api.Errno {
	if !m.at(now) {
		return api.ErrArg
	}
	if id < 1 || id > len(m.till) || m.till[id-1] < 0 {
		return api.ErrNone
	}
	if m.till[id-1] == 0 {
		return api.ErrState
	}
	m.till[id-1] = -1
	return api.OK
}

func (m *model) all() []api.Message {
	var all []api.Message
	for i, till := range m.till {
		if till >= 0 {
			all = append(all, api.Message{Id: i + 1, Till: till, Taken: till > 0})
		}
	}
	return all
}

func (m *model) depth(now int) (int, api.Errno) {
	if !m.at(now) {
		return 0, api.ErrArg
	}
	n := 0
	for _, till := range m.till {
		if till == 0 {
			n++
		}
	}
	return n, api.OK
}

// both makes one call of a queue and of its model, by its kind, and
// holds the queue against the model; a and b are what the call is given.
func both(t testing.TB, q *Queue, m *model, kind, a, b int) {
	t.Helper()
	switch kind {
	case 0:
		id, e := m.put(a)
		wantPut(t, q, a, id, e)
	case 1:
		id, e := m.lease(a, b)
		wantLease(t, q, a, b, id, e)
	case 2:
		wantAck(t, q, a, b, m.ack(a, b))
	case 3:
		n, e := m.depth(a)
		wantDepth(t, q, a, n, e)
	case 4:
		if m.at(a) {
			wantAll(t, q, a, m.all()...)
		} else if l, e := q.All(a); len(l) != 0 || e != api.ErrArg {
			t.Errorf("All(%d) = %v, %d, not none, ErrArg", a, l, e)
		}
	}
	// The field is looked at, since a call that tells the messages
	// gives some of them back.
	if all := m.all(); !slices.Equal(q.messages, all) {
		t.Fatalf("after call %d of %d, %d: %v, not %v", kind, a, b, q.messages, all)
	}
}

func TestP11RandomCalls(t *testing.T) {
	r := rand.New(rand.NewPCG(11, 1))
	for range 300 {
		q, m := New(), &model{}
		base := []int{0, 1000, clock - 60}[r.IntN(3)]
		for step := range 200 {
			// The clock goes on, but a call may be behind or ahead of it.
			now := base + step/3 + r.IntN(10) - 4
			switch kind := r.IntN(5); kind {
			case 0:
				both(t, q, m, kind, r.IntN(8)-1, 0)
			case 1:
				both(t, q, m, kind, now, r.IntN(25)-1)
			default:
				both(t, q, m, kind, now, r.IntN(len(m.till)+3)-1)
			}
		}
	}
}

func TestP11RandomFullQueues(t *testing.T) {
	r := rand.New(rand.NewPCG(11, 2))
	for range 30 {
		q, m := New(), &model{}
		both(t, q, m, 0, 190, 0)
		for now := range 300 {
			both(t, q, m, 0, 1+r.IntN(12), 0)
			both(t, q, m, 1, now, 1+r.IntN(9))
			both(t, q, m, 2, now, 1+r.IntN(len(m.till)))
		}
	}
}

// A panic at any of these ends the test; the model tells what is changed.
func TestP1P2AnswersWhateverItIsGiven(t *testing.T) {
	numbers := []int{math.MinInt, math.MaxInt, -clock, -1, 0, 1, 2, 5, 199, 200, 201, 99999, 100000, 100001, clock - 1, clock, clock + 1, math.MaxInt - 5}
	for _, n := range []int{0, 1, 5, 200} {
		for kind := range 5 {
			for _, a := range numbers {
				for _, b := range numbers {
					q, m := New(), &model{}
					both(t, q, m, 0, n, 0)
					both(t, q, m, 1, 0, 3)
					both(t, q, m, 1, 0, 100000)
					both(t, q, m, kind, a, b)
				}
			}
		}
	}
}

// A queue that New did not make is an empty one, too.
func TestP1ZeroQueue(t *testing.T) {
	var q Queue
	wantAll(t, &q, 0)
	wantDepth(t, &q, 0, 0, api.OK)
	wantLease(t, &q, 0, 1, 0, api.ErrNone)
	wantAck(t, &q, 0, 1, api.ErrNone)
	wantPut(t, &q, 2, 1, api.OK)
	wantLease(t, &q, 0, 1, 1, api.OK)
}

// What All answered is the caller's: writing to it, or to the room
// behind it, is not seen by the queue or by another answer.
func TestP2AllIsNewMemory(t *testing.T) {
	for _, n := range []int{1, 2, 3, 5, 100, 199, 200} {
		q := newQueue(t, n)
		wantLease(t, q, 0, 9, 1, api.OK)
		want := []api.Message{taken(1, 9)}
		for id := 2; id <= n; id++ {
			want = append(want, free(id))
		}
		a, _ := q.All(0)
		b, _ := q.All(0)
		for i := range a[:cap(a)] {
			a[:cap(a)][i] = taken(-7, -7)
		}
		if !slices.Equal(b, want) {
			t.Errorf("another answer is %v, not %v", b, want)
		}
		wantAll(t, q, 0, want...)
		wantAck(t, q, 0, 1, api.OK)
		wantDepth(t, q, 9, n-1, api.OK)
		if !slices.Equal(b, want) {
			t.Errorf("the queue's calls changed an answer: %v, not %v", b, want)
		}
		wantAll(t, q, 9, want[1:]...)
	}
}

// Messages that are gone leave room behind those that are there: what is
// put there must not be seen in an earlier answer, nor the other way.
func TestP2AllAfterAck(t *testing.T) {
	q := newQueue(t, 4)
	for id := 1; id <= 4; id++ {
		wantLease(t, q, 0, 9, id, api.OK)
		wantAck(t, q, 0, id, api.OK)
		a, _ := q.All(0)
		for i := range a[:cap(a)] {
			a[:cap(a)][i] = taken(-7, -7)
		}
		wantDepth(t, q, 0, 4-id, api.OK)
	}
	wantPut(t, q, 2, 5, api.OK)
	wantAll(t, q, 0, free(5), free(6))
}

func TestP2QueuesShareNothing(t *testing.T) {
	p, q := newQueue(t, 2), newQueue(t, 3)
	wantLease(t, p, 0, 5, 1, api.OK)
	wantAck(t, p, 0, 1, api.OK)
	wantPut(t, p, 1, 3, api.OK)
	wantAll(t, q, 0, free(1), free(2), free(3))
	wantAll(t, p, 0, free(2), free(3))
	wantAll(t, New(), 0)
	wantPut(t, New(), 1, 1, api.OK)
}

func FuzzP11(f *testing.F) {
	f.Add(0, []byte{0, 3, 0, 1, 0, 5, 1, 1, 9, 2, 2, 3, 2, 2, 2, 3, 4, 0, 4, 5, 0})
	f.Add(clock-100, []byte{0, 200, 0, 1, 100, 1, 1, 101, 1, 4, 102, 0})
	f.Add(-1, []byte{0, 255, 255, 1, 0, 0, 2, 1, 1})
	f.Fuzz(func(t *testing.T, base int, calls []byte) {
		q, m := New(), &model{}
		for ; len(calls) >= 3; calls = calls[3:] {
			kind, a, b := int(calls[0])%5, int(calls[1]), int(int8(calls[2]))
			if kind == 0 {
				both(t, q, m, 0, a-1, 0)
			} else {
				both(t, q, m, kind, base+a, b)
			}
		}
	})
}
