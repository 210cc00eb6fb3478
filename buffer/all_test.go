package buffer

import (
	"math"
	"math/rand/v2"
	"slices"
	"testing"

	"tidewheel/api"
)

// model says P19 and P20 a second time, by sources: of each the numbers of
// those that wait, in a line, and of the one that runs (0: none does).
type model struct {
	all   []api.Request
	lines [6][]int
	runs  [6]int
}

func (m *model) count() (int, int) {
	wait, run := 0, 0
	for source, line := range m.lines {
		wait += len(line)
		if m.runs[source] != 0 {
			run++
		}
	}
	return wait, run
}

func (m *model) ask(now, source, ticks int) (int, api.Errno) {
	if now < 0 || now > clock || ticks < 1 || ticks > 100000 {
		return 0, api.ErrArg
	}
	if source < 0 || source > 5 {
		return 0, api.ErrNone
	}
	if wait, _ := m.count(); wait == 60 || len(m.lines[source]) == 20 || len(m.all) == 200 {
		return 0, api.ErrFull
	}
	id := len(m.all) + 1
	m.all = append(m.all, request(id, source, now+ticks, 1, 0))
	m.lines[source] = append(m.lines[source], id)
	return id, api.OK
}

func (m *model) late(now int) []int {
	var late []int
	for source, line := range m.lines {
		var left []int
		for _, id := range line {
			if m.all[id-1].Till > now {
				left = append(left, id)
				continue
			}
			m.all[id-1].Fate = 4
			late = append(late, id)
		}
		m.lines[source] = left
	}
	slices.Sort(late)
	return late
}

func (m *model) next() int {
	next := 0
	for source, line := range m.lines {
		if len(line) == 0 || m.runs[source] != 0 {
			continue
		}
		if next == 0 || line[0] < next {
			next = line[0]
		}
	}
	return next
}

func (m *model) run(id, pod int) api.Errno {
	if id < 1 || id > len(m.all) {
		return api.ErrNone
	}
	source := m.all[id-1].Source
	line := m.lines[source]
	if len(line) == 0 || line[0] != id || m.runs[source] != 0 {
		return api.ErrState
	}
	m.lines[source] = line[1:]
	m.runs[source] = id
	m.all[id-1].Fate, m.all[id-1].Pod = 2, pod
	return api.OK
}

func (m *model) done(id int) (int, api.Errno) {
	if id < 1 || id > len(m.all) {
		return 0, api.ErrNone
	}
	source := m.all[id-1].Source
	if m.runs[source] != id {
		return 0, api.ErrState
	}
	m.runs[source] = 0
	m.all[id-1].Fate = 3
	return m.all[id-1].Pod, api.OK
}

func (m *model) lost(pod int) []int {
	var lost []int
	for source, id := range m.runs {
		if id != 0 && m.all[id-1].Pod == pod {
			m.runs[source] = 0
			m.all[id-1].Fate = 5
			lost = append(lost, id)
		}
	}
	slices.Sort(lost)
	return lost
}

// kinds of calls that both makes.
const kinds = 5

// call is a kind of call, and what it is given, as far as it takes that.
type call struct{ kind, now, a, n int }

// both makes one call of a buffer and of its model, and holds the buffer
// against the model.
func both(t testing.TB, b *Buffer, m *model, c call) {
	t.Helper()
	switch c.kind {
	case 0:
		id, e := m.ask(c.now, c.a, c.n)
		wantAsk(t, b, c.now, c.a, c.n, id, e)
	case 1:
		if c.now < 0 || c.now > clock {
			wantLateArg(t, b, c.now)
		} else {
			wantLate(t, b, c.now, m.late(c.now)...)
		}
	case 2:
		wantRun(t, b, c.a, c.n, m.run(c.a, c.n))
	case 3:
		pod, e := m.done(c.a)
		wantDone(t, b, c.a, pod, e)
	case 4:
		wantLost(t, b, c.n, m.lost(c.n)...)
	}
	wantNext(t, b, m.next())
	wantAll(t, b, m.all...)
	w, r := b.Count()
	if wait, run := m.count(); w != wait || r != run {
		t.Errorf("Count() = %d, %d, not %d, %d", w, r, wait, run)
	}
	if t.Failed() {
		t.Fatalf("after %+v: %v", c, m.all)
	}
}

// anyRequest is mostly one that is next, or that runs.
func anyRequest(r *rand.Rand, m *model, running bool) int {
	id := m.next()
	if running {
		id = m.runs[r.IntN(6)]
	}
	if id == 0 || r.IntN(4) == 0 {
		return r.IntN(len(m.all)+3) - 1
	}
	return id
}

// The clock goes on slowly, so that some requests are late and some run;
// it goes back at times, which a buffer does not mind.
func TestP19P20RandomCalls(t *testing.T) {
	r := rand.New(rand.NewPCG(19, 20))
	for range 200 {
		b, m, now := New(), &model{}, r.IntN(20)
		sources, ticks, pods := 1+r.IntN(6), 2+r.IntN(60), 1+r.IntN(4)
		for range 400 {
			now += r.IntN(2)
			switch r.IntN(8) {
			case 0, 1, 2:
				both(t, b, m, call{0, now, r.IntN(sources), 1 + r.IntN(ticks)})
			case 3:
				both(t, b, m, call{kind: 1, now: now - r.IntN(5)})
			case 4, 5:
				both(t, b, m, call{kind: 2, a: anyRequest(r, m, false), n: r.IntN(pods)})
			case 6:
				both(t, b, m, call{kind: 3, a: anyRequest(r, m, true)})
			case 7:
				both(t, b, m, call{kind: 4, n: r.IntN(pods + 1)})
			}
		}
	}
}

// Full buffers: more comes than runs, or is late.
func TestP19P20RandomFullBuffers(t *testing.T) {
	r := rand.New(rand.NewPCG(19, 21))
	for range 60 {
		b, m := New(), &model{}
		sources := 1 + r.IntN(6)
		for now := range 300 {
			for range 1 + r.IntN(3) {
				both(t, b, m, call{0, now, r.IntN(sources), 1 + r.IntN(80)})
			}
			both(t, b, m, call{kind: 1, now: now})
			if id := m.next(); id != 0 && r.IntN(3) == 0 {
				both(t, b, m, call{kind: 2, a: id, n: id % 5})
			}
			both(t, b, m, call{kind: 3, a: anyRequest(r, m, true)})
		}
	}
}

// All runs of five of these calls, which two sources share.
func TestP19P20AllShortRuns(t *testing.T) {
	calls := []call{
		{0, 0, 0, 2}, {0, 1, 1, 1}, {kind: 1, now: 2},
		{kind: 2, a: 1, n: 1}, {kind: 2, a: 2, n: 1}, {kind: 2, a: 3},
		{kind: 3, a: 1}, {kind: 3, a: 2}, {kind: 4, n: 1}, {kind: 4},
	}
	for i := range 100000 {
		b, m := New(), &model{}
		for range 5 {
			both(t, b, m, calls[i%len(calls)])
			i /= len(calls)
		}
	}
}

// A panic at any of these ends the test; the model tells what is changed.
func TestP1P2AnswersWhateverItIsGiven(t *testing.T) {
	numbers := []int{math.MinInt, math.MinInt + 1, -1, 0, 1, 2, 3, 5, 6, 100000, 100001, clock, clock + 1, math.MaxInt}
	for kind := range kinds {
		for _, now := range numbers {
			for _, a := range numbers {
				for _, n := range numbers {
					b, m := New(), &model{}
					both(t, b, m, call{kind, now, a, n})
					both(t, b, m, call{0, 0, 5, 1})
					both(t, b, m, call{0, 1, 5, 3})
					both(t, b, m, call{kind: 2, a: 1, n: n})
					both(t, b, m, call{kind, now, a, n})
					both(t, b, m, call{kind, now, a, n})
				}
			}
		}
	}
}

// A call that tells an error changes nothing.
func TestP2ErrorsChangeNothing(t *testing.T) {
	b := newBuffer(t, 1, 1, 0)
	wantRun(t, b, 1, 7, api.OK)
	want := b.All()
	for range 3 {
		wantAsk(t, b, -1, 1, 1, 0, api.ErrArg)
		wantAsk(t, b, 0, 6, 1, 0, api.ErrNone)
		wantLateArg(t, b, clock+1)
		wantRun(t, b, 1, 8, api.ErrState)
		wantRun(t, b, 2, 8, api.ErrState)
		wantRun(t, b, 4, 8, api.ErrNone)
		wantDone(t, b, 2, 0, api.ErrState)
		wantDone(t, b, 0, 0, api.ErrNone)
		wantAll(t, b, want...)
		wantNext(t, b, 3)
	}
	wantAsk(t, b, 0, 1, 100, 4, api.OK)
	wantAll(t, b, append(want, request(4, 1, 100, 1, 0))...)
}

// A buffer that New did not make answers, too.
func TestP1ZeroBuffer(t *testing.T) {
	var b Buffer
	wantAll(t, &b)
	wantNext(t, &b, 0)
	wantLate(t, &b, 0)
	wantLost(t, &b, 0)
	wantAsk(t, &b, 0, 0, 1, 1, api.OK)
	wantRun(t, &b, 1, 2, api.OK)
	wantDone(t, &b, 1, 2, api.OK)
}

// spoil writes to a list, and to the room behind it.
func spoil[T any](list []T, with T) {
	whole := list[:cap(list)]
	for i := range whole {
		whole[i] = with
	}
}

// What All answered is the caller's: writing to it, or to the room behind
// it, is not seen by the buffer or by another answer, nor the other way.
func TestP2AllIsNewMemory(t *testing.T) {
	for n := 1; n <= 20; n++ {
		b := newBuffer(t, make([]int, n)...)
		var want []api.Request
		for id := 1; id <= n; id++ {
			want = append(want, request(id, 0, 100, 1, 0))
		}
		first, second := b.All(), b.All()
		spoil(first, request(-7, -7, -7, -7, -7))
		wantAll(t, b, want...)
		wantRun(t, b, 1, 3, api.OK)
		wantAsk(t, b, 0, 1, 1, n+1, api.OK)
		if !slices.Equal(second, want) {
			t.Errorf("another answer is %v, not %v", second, want)
		}
		want[0] = request(1, 0, 100, 2, 3)
		wantAll(t, b, append(want, request(n+1, 1, 1, 1, 0))...)
	}
}

// Nor do the numbers that Late and Lost tell share memory with anything.
func TestP2NumbersAreNewMemory(t *testing.T) {
	b := newBuffer(t, 0, 1, 2, 3, 4, 5, 0)
	for id := 1; id <= 6; id++ {
		wantRun(t, b, id, id%2, api.OK)
	}
	odd, even := b.Lost(1), b.Lost(0)
	late, e := b.Late(100)
	for _, list := range [][]int{odd, even, late} {
		spoil(list[len(list):], -7)
	}
	if !slices.Equal(odd, []int{1, 3, 5}) || !slices.Equal(even, []int{2, 4, 6}) || !slices.Equal(late, []int{7}) || e != api.OK {
		t.Errorf("Lost and Late = %v, %v, %v, %d", odd, even, late, e)
	}
	for _, list := range [][]int{odd, even, late} {
		spoil(list, -7)
	}
	wantFates(t, b, 5, 5, 5, 5, 5, 5, 4)
	wantAsk(t, b, 0, 0, 1, 8, api.OK)
	wantNext(t, b, 8)
}

func TestP2BuffersShareNothing(t *testing.T) {
	b, c := newBuffer(t, 0, 1), newBuffer(t, 0, 0)
	wantRun(t, b, 1, 5, api.OK)
	wantLost(t, c, 5)
	wantNext(t, c, 1)
	wantLate(t, c, 100, 1, 2)
	wantAsk(t, c, 0, 3, 1, 3, api.OK)
	wantAll(t, b, request(1, 0, 100, 2, 5), request(2, 1, 100, 1, 0))
	wantAll(t, New())
}

func FuzzP19P20(f *testing.F) {
	f.Add([]byte{0, 0, 1, 5, 0, 1, 1, 3, 0, 2, 2, 9, 2, 0, 1, 7, 1, 4, 0, 0, 4, 0, 0, 7, 2, 0, 3, 8, 3, 0, 3, 0})
	f.Add([]byte{0, 255, 0, 1, 0, 0, 6, 1, 0, 0, 255, 0, 1, 255, 0, 0, 2, 0, 0, 0, 3, 0, 1, 0})
	f.Fuzz(func(t *testing.T, calls []byte) {
		b, m := New(), &model{}
		for ; len(calls) >= 4; calls = calls[4:] {
			both(t, b, m, call{int(calls[0]) % kinds, int(int8(calls[1])), int(int8(calls[2])), int(int8(calls[3]))})
		}
	})
}
