package topic

import (
	"math"
	"math/rand/v2"
	"slices"
	"testing"

	"tidewheel/api"
)

func newTopic(t testing.TB, parts int) *Topic {
	t.Helper()
	p, e := New(parts)
	if p == nil || e != api.OK {
		t.Fatalf("New(%d) = %v, %d", parts, p, e)
	}
	return p
}

func wantMake(t testing.TB, p *Topic, part, n int, want api.Errno) {
	t.Helper()
	if e := p.Make(part, n); e != want {
		t.Errorf("Make(%d, %d) = %d, not %d", part, n, e, want)
	}
}

func wantTake(t testing.TB, p *Topic, part, to int, want api.Errno) {
	t.Helper()
	if e := p.Take(part, to); e != want {
		t.Errorf("Take(%d, %d) = %d, not %d", part, to, e, want)
	}
}

func wantLags(t testing.TB, p *Topic, want ...int) {
	t.Helper()
	if l := p.Lags(); !slices.Equal(l, want) {
		t.Errorf("Lags() = %v, not %v", l, want)
	}
}

func TestP10New(t *testing.T) {
	for parts := 1; parts <= 20; parts++ {
		p := newTopic(t, parts)
		wantLags(t, p, make([]int, parts)...)
		for part := range parts {
			wantTake(t, p, part, 0, api.OK)
			wantTake(t, p, part, 1, api.ErrArg)
		}
	}
	for _, parts := range []int{0, -1, 21, 22, 200, math.MinInt, math.MaxInt} {
		if p, e := New(parts); p != nil || e != api.ErrArg {
			t.Errorf("New(%d) = %v, %d, not nil, ErrArg", parts, p, e)
		}
	}
}

func TestP10MakeAndTake(t *testing.T) {
	p := newTopic(t, 3)
	wantMake(t, p, 1, 5, api.OK)
	wantLags(t, p, 0, 5, 0)
	wantTake(t, p, 1, 3, api.OK)
	wantLags(t, p, 0, 2, 0)
	wantMake(t, p, 0, 7, api.OK)
	wantMake(t, p, 1, 1, api.OK)
	wantMake(t, p, 2, 100, api.OK)
	wantMake(t, p, 2, 11, api.OK)
	wantLags(t, p, 7, 3, 111)
	// Up to where the group is by number, not how many more.
	wantTake(t, p, 2, 40, api.OK)
	wantTake(t, p, 2, 41, api.OK)
	wantLags(t, p, 7, 3, 70)
	wantTake(t, p, 1, 6, api.OK)
	wantTake(t, p, 0, 7, api.OK)
	wantTake(t, p, 2, 111, api.OK)
	wantLags(t, p, 0, 0, 0)
	wantMake(t, p, 1, 2, api.OK)
	wantLags(t, p, 0, 2, 0)
}

func TestP10MakeEdges(t *testing.T) {
	p := newTopic(t, 2)
	for _, n := range []int{0, -1, 100001, math.MinInt, math.MaxInt} {
		wantMake(t, p, 0, n, api.ErrArg)
	}
	wantLags(t, p, 0, 0)
	wantMake(t, p, 0, 1, api.OK)
	wantMake(t, p, 1, 100000, api.OK)
	wantLags(t, p, 1, 100000)
	wantMake(t, p, 1, 100000, api.OK)
	wantLags(t, p, 1, 200000)
}

func TestP10TakeEdges(t *testing.T) {
	p := newTopic(t, 2)
	wantMake(t, p, 1, 10, api.OK)
	for _, to := range []int{-1, 11, math.MinInt, math.MaxInt} {
		wantTake(t, p, 1, to, api.ErrArg)
	}
	wantTake(t, p, 0, 10, api.ErrArg)
	wantLags(t, p, 0, 10)
	wantTake(t, p, 1, 0, api.OK)
	wantTake(t, p, 1, 4, api.OK)
	wantTake(t, p, 1, 4, api.OK)
	wantLags(t, p, 0, 6)
	// What the group has it does not give back.
	wantTake(t, p, 1, 3, api.ErrArg)
	wantTake(t, p, 1, 0, api.ErrArg)
	wantLags(t, p, 0, 6)
	wantTake(t, p, 1, 10, api.OK)
	wantTake(t, p, 1, 10, api.OK)
	wantTake(t, p, 1, 9, api.ErrArg)
	wantLags(t, p, 0, 0)
}

func TestP10NoSuchPartition(t *testing.T) {
	for _, parts := range []int{1, 3, 20} {
		p := newTopic(t, parts)
		want := make([]int, parts)
		wantMake(t, p, parts-1, 5, api.OK)
		want[parts-1] = 5
		for _, part := range []int{-1, parts, parts + 1, math.MinInt, math.MaxInt} {
			// ErrNone is told first, where n or to is wrong, too.
			for _, n := range []int{1, 0, -1, 5, 100000, 100001, math.MinInt, math.MaxInt} {
				wantMake(t, p, part, n, api.ErrNone)
				wantTake(t, p, part, n, api.ErrNone)
			}
		}
		wantLags(t, p, want...)
	}
}

// So many calls as make a topic full there is no time for: the topic is
// laid nearly full.
func TestP10EndStopsAtMost(t *testing.T) {
	p := &Topic{[]partition{{end: api.Most - 100000}, {end: api.Most - 100000}, {end: api.Most - 7, offset: api.Most - 10}}}
	wantMake(t, p, 0, 100000, api.OK)
	wantMake(t, p, 1, 99999, api.OK)
	wantMake(t, p, 2, 8, api.OK)
	wantLags(t, p, api.Most, api.Most-1, 10)
	for part := range 3 {
		for _, n := range []int{1, 2, 100000} {
			wantMake(t, p, part, n, api.OK)
		}
	}
	wantLags(t, p, api.Most, api.Most, 10)
	wantMake(t, p, 0, 100001, api.ErrArg)
	for part := range 3 {
		wantTake(t, p, part, api.Most+1, api.ErrArg)
		wantTake(t, p, part, api.Most, api.OK)
	}
	wantLags(t, p, 0, 0, 0)
	wantMake(t, p, 1, 1, api.OK)
	wantTake(t, p, 1, api.Most-1, api.ErrArg)
	wantLags(t, p, 0, 0, 0)
}

// model says P10 a second time: a topic's messages one by one, each of
// which the group has or has not.
type model [][]bool

func (m model) make(part, n int) api.Errno {
	if part < 0 || part >= len(m) {
		return api.ErrNone
	}
	if n < 1 || n > 100000 {
		return api.ErrArg
	}
	for range n {
		m[part] = append(m[part], false)
	}
	return api.OK
}

func (m model) take(part, to int) api.Errno {
	if part < 0 || part >= len(m) {
		return api.ErrNone
	}
	if to < 0 || to > len(m[part]) || slices.Contains(m[part][to:], true) {
		return api.ErrArg
	}
	for i := range to {
		m[part][i] = true
	}
	return api.OK
}

func (m model) lags() []int {
	var lags []int
	for _, messages := range m {
		lag := 0
		for _, had := range messages {
			if !had {
				lag++
			}
		}
		lags = append(lags, lag)
	}
	return lags
}

func TestP10RandomCalls(t *testing.T) {
	r := rand.New(rand.NewPCG(10, 1))
	for range 300 {
		parts := 1 + r.IntN(20)
		p, m := newTopic(t, parts), make(model, parts)
		for range 100 {
			part := r.IntN(parts+2) - 1
			if r.IntN(2) == 0 {
				n := r.IntN(12) - 1
				wantMake(t, p, part, n, m.make(part, n))
			} else {
				to := r.IntN(30) - 1
				wantTake(t, p, part, to, m.take(part, to))
			}
			wantLags(t, p, m.lags()...)
		}
	}
}

// A panic at any of these ends the test; a call that tells an error
// changes nothing, and one that is OK changes no other partition.
func TestP1P2AnswersWhateverItIsGiven(t *testing.T) {
	numbers := []int{math.MinInt, math.MaxInt, -1, 0, 1, 2, 3, 19, 20, 21, 99999, 100000, 100001, api.Most, api.Most + 1, -api.Most}
	for _, parts := range numbers {
		p, e := New(parts)
		if (p == nil) != (e != api.OK) {
			t.Errorf("New(%d) = %v, %d", parts, p, e)
		}
		if p == nil {
			continue
		}
		for _, part := range numbers {
			for _, n := range numbers {
				for _, call := range []func(int, int) api.Errno{p.Make, p.Take} {
					was := slices.Clone(p.parts)
					e := call(part, n)
					now := slices.Clone(p.parts)
					if e == api.OK {
						now[part] = was[part]
					}
					if !slices.Equal(was, now) {
						t.Errorf("%d, %d of %v: %d, %v", part, n, was, e, p.parts)
					}
				}
			}
		}
	}
}

// A topic that New did not make has no partitions.
func TestP1ZeroTopic(t *testing.T) {
	var p Topic
	wantMake(t, &p, 0, 1, api.ErrNone)
	wantTake(t, &p, 0, 0, api.ErrNone)
	wantLags(t, &p)
}

// What Lags answered is the caller's: writing to it, or to the room
// behind it, is not seen by the topic or by another answer.
func TestP2LagsAreNewMemory(t *testing.T) {
	for parts := 1; parts <= 20; parts++ {
		p := newTopic(t, parts)
		want := make([]int, parts)
		for part := range parts {
			wantMake(t, p, part, part+1, api.OK)
			want[part] = part + 1
		}
		a, b := p.Lags(), p.Lags()
		wide := a[:cap(a)]
		for i := range wide {
			wide[i] = -7
		}
		if !slices.Equal(b, want) {
			t.Errorf("another answer is %v, not %v", b, want)
		}
		wantLags(t, p, want...)
		wantMake(t, p, 0, 1, api.OK)
		if b[0] != 1 || a[0] != -7 {
			t.Errorf("Make changed an answer: %v, %v", a, b)
		}
	}
}

func TestP2TopicsShareNothing(t *testing.T) {
	p, q := newTopic(t, 2), newTopic(t, 2)
	wantMake(t, p, 0, 5, api.OK)
	wantTake(t, p, 0, 2, api.OK)
	wantMake(t, q, 1, 9, api.OK)
	wantLags(t, p, 3, 0)
	wantLags(t, q, 0, 9)
	wantLags(t, newTopic(t, 2), 0, 0)
}

func FuzzP10(f *testing.F) {
	f.Add(3, []byte{0, 1, 5, 1, 1, 3, 1, 1, 2, 0, 3, 5})
	f.Add(20, []byte{0, 19, 255, 1, 20, 0, 1, 19, 254})
	f.Add(0, []byte{})
	f.Fuzz(func(t *testing.T, parts int, calls []byte) {
		p, e := New(parts)
		if (p == nil) != (e != api.OK) || (e == api.OK) != (1 <= parts && parts <= 20) {
			t.Fatalf("New(%d) = %v, %d", parts, p, e)
		}
		if p == nil {
			return
		}
		m := make(model, parts)
		for ; len(calls) >= 3; calls = calls[3:] {
			part, n := int(int8(calls[1])), int(calls[2])-1
			if calls[0]%2 == 0 {
				wantMake(t, p, part, n, m.make(part, n))
			} else {
				wantTake(t, p, part, n, m.take(part, n))
			}
			wantLags(t, p, m.lags()...)
		}
	})
}
