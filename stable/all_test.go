package stable

import (
	"math"
	"math/rand/v2"
	"testing"

	"tidewheel/api"
)

// call is a Settle that answered OK, as the model keeps all of them.
type call struct{ at, have, want, n int }

// model says the words of P16 once more: it keeps every call, and counts
// them anew each time.
type model struct {
	up, down api.Pace
	calls    []call
}

func newModel(up, down api.Pace) *model {
	for _, n := range []*int{
		&up.Window, &up.Pods, &up.Percent, &up.Period,
		&down.Window, &down.Pods, &down.Percent, &down.Period,
	} {
		if *n < 0 {
			*n = 0
		}
		if *n > 100000 {
			*n = 100000
		}
	}
	return &model{up: up, down: down}
}

func (m *model) settle(now, have, want int) (int, api.Errno) {
	if now < 0 || now > clock || have < 0 || have > 50 || want < 0 || want > 50 {
		return 0, api.ErrArg
	}
	for _, c := range m.calls {
		if now < c.at {
			return 0, api.ErrArg
		}
	}
	n := have
	if want > have {
		n = m.more(now, have, want)
	}
	if want < have {
		n = m.fewer(now, have, want)
	}
	m.calls = append(m.calls, call{now, have, want, n})
	return n, api.OK
}

func (m *model) more(now, have, want int) int {
	n, grown := want, 0
	for _, c := range m.calls {
		if c.at > now-m.up.Window && c.want < n {
			n = c.want
		}
		if c.at > now-m.up.Period && c.n > c.have {
			grown += c.n - c.have
		}
	}
	if m.up.Period > 0 && m.up.Pods+m.up.Percent > 0 {
		base := have - grown
		if base < 0 {
			base = 0
		}
		room := (base*m.up.Percent + 99) / 100
		if room < m.up.Pods {
			room = m.up.Pods
		}
		if n > base+room {
			n = base + room
		}
	}
	if n < have {
		n = have
	}
	return n
}

func (m *model) fewer(now, have, want int) int {
	n, shrunk := want, 0
	for _, c := range m.calls {
		if c.at > now-m.down.Window && c.want > n {
			n = c.want
		}
		if c.at > now-m.down.Period && c.n < c.have {
			shrunk += c.have - c.n
		}
	}
	if m.down.Period > 0 && m.down.Pods+m.down.Percent > 0 {
		base := have + shrunk
		room := base * m.down.Percent / 100
		if room < m.down.Pods {
			room = m.down.Pods
		}
		if n < base-room {
			n = base - room
		}
	}
	if n > have {
		n = have
	}
	return n
}

// both makes one call of a Stable and of its model, and tells n.
func both(t testing.TB, s *Stable, m *model, now, have, want int) int {
	t.Helper()
	wantN, wantE := m.settle(now, have, want)
	n, e := s.Settle(now, have, want)
	if n != wantN || e != wantE {
		t.Fatalf("%v, %v, %v: Settle(%d, %d, %d) = %d, %d, not %d, %d", m.up, m.down, m.calls, now, have, want, n, e, wantN, wantE)
	}
	return n
}

func randomPace(r *rand.Rand) api.Pace {
	some := func(most int) int {
		if r.IntN(4) == 0 {
			return 0
		}
		return r.IntN(most)
	}
	return api.Pace{Window: some(20), Pods: some(6), Percent: some(130), Period: some(25)}
}

// have follows what was told, mostly, as a world does it; pods may also
// have come or gone some other way, and an argument may be wrong.
func randomHave(r *rand.Rand, told int) int {
	switch r.IntN(12) {
	case 0:
		return r.IntN(51)
	case 1:
		return r.IntN(53) - 1
	case 2:
		return max(told-r.IntN(4), 0)
	}
	return told
}

func TestP16RandomCalls(t *testing.T) {
	r := rand.New(rand.NewPCG(16, 1))
	for range 3000 {
		up, down := randomPace(r), randomPace(r)
		s, m := New(up, down), newModel(up, down)
		now, told := []int{0, 1000, clock - 150}[r.IntN(3)], r.IntN(51)
		for range 150 {
			now += r.IntN(3) * r.IntN(3)
			at := now
			if r.IntN(30) == 0 {
				at -= r.IntN(5)
			}
			want := r.IntN(51)
			if r.IntN(2) == 0 {
				want = told + r.IntN(9) - 4
			}
			told = both(t, s, m, at, randomHave(r, told), want)
		}
	}
}

// Every pair of numbers, from each of which it goes on once.
func TestP16EveryHaveAndWant(t *testing.T) {
	paces := []api.Pace{{}, {Window: 3}, {Pods: 4, Period: 3}, {Percent: 30, Period: 2}, {Window: 2, Pods: 2, Percent: 20, Period: 3}}
	for i, up := range paces {
		down := paces[(i+2)%len(paces)]
		for have := range 51 {
			for want := range 51 {
				s, m := New(up, down), newModel(up, down)
				told := both(t, s, m, 5, have, want)
				told = both(t, s, m, 6, told, 50-want)
				both(t, s, m, 8, told, want)
			}
		}
	}
}

// edges are numbers at, and one beside, each bound at which an answer turns.
func edges() []int {
	all := []int{math.MaxInt, math.MaxInt - 1, math.MinInt, math.MinInt + 1}
	for _, n := range []int{0, 50, 100, 100000, clock} {
		all = append(all, n-1, n, n+1, -n)
	}
	return all
}

// A panic at any of these ends the test.
func TestP1AnswersWhateverItIsGiven(t *testing.T) {
	r := rand.New(rand.NewPCG(16, 2))
	numbers := edges()
	any := func() int { return numbers[r.IntN(len(numbers))] }
	pace := func() api.Pace { return api.Pace{Window: any(), Pods: any(), Percent: any(), Period: any()} }
	for range 5000 {
		up, down := pace(), pace()
		s, m := New(up, down), newModel(up, down)
		both(t, s, m, any(), any(), any())
		for _, now := range []int{0, 1, 50, 100, 99999, 100000, 100001, clock - 1, clock} {
			both(t, s, m, now, any(), any())
			both(t, s, m, now, r.IntN(51), r.IntN(51))
		}
		both(t, s, m, any(), any(), any())
	}
}

// A Stable that was not made by New is one of paces that are 0.
func TestP1ZeroStable(t *testing.T) {
	var s Stable
	refuse(t, &s, -1, 1, 1)
	settle(t, &s, step{0, 1, 50, 50}, step{0, 50, 0, 0}, step{9, 3, 3, 3})
}

// What is told is between what there is and what is wanted, both included.
func TestP16IsBetweenHaveAndWant(t *testing.T) {
	r := rand.New(rand.NewPCG(16, 3))
	for range 500 {
		s := New(randomPace(r), randomPace(r))
		for now := range 100 {
			have, want := r.IntN(51), r.IntN(51)
			n, e := s.Settle(now, have, want)
			if e != api.OK || n < min(have, want) || n > max(have, want) {
				t.Fatalf("Settle(%d, %d, %d) = %d, %d", now, have, want, n, e)
			}
		}
	}
}

// Calls of one Stable stand between those of others: each of them answers
// as it does alone.
func TestP2StablesAreApart(t *testing.T) {
	r := rand.New(rand.NewPCG(16, 4))
	var stables []*Stable
	var models []*model
	for range 20 {
		up, down := randomPace(r), randomPace(r)
		stables = append(stables, New(up, down))
		models = append(models, newModel(up, down))
	}
	for step := range 2000 {
		i := r.IntN(len(stables))
		both(t, stables[i], models[i], step/10, r.IntN(51), r.IntN(51))
	}
}

// The paces are numbers, which the caller may change behind New.
func TestP2PacesAreNotKept(t *testing.T) {
	up, down := api.Pace{Window: -1, Pods: 2, Period: 200000}, api.Pace{Percent: 50, Period: 5}
	s := New(up, down)
	if up != (api.Pace{Window: -1, Pods: 2, Period: 200000}) || down != (api.Pace{Percent: 50, Period: 5}) {
		t.Error(up, down)
	}
	up.Pods, down.Percent = 9, 100
	settle(t, s, step{0, 1, 9, 3}, step{1, 8, 0, 4})
}

// A call among very many, with the longest windows and periods, is as
// quick as any, and no more is kept than may still be asked.
func TestP16KeepsWhatMayBeAsked(t *testing.T) {
	pace := api.Pace{Window: 100000, Pods: 100000, Period: 100000}
	s := New(pace, pace)
	for i := range 400000 {
		now := i / 2
		if _, e := s.Settle(now, 25, (i*7)%51); e != api.OK {
			t.Fatal(i, e)
		}
	}
	if len(s.lows) > 51 || len(s.highs) > 51 {
		t.Errorf("%d lows and %d highs are kept", len(s.lows), len(s.highs))
	}
	short := New(api.Pace{Pods: 50, Period: 10}, api.Pace{Pods: 50, Period: 20})
	for i := range 100000 {
		now := i / 4
		settle(t, short, step{now, 0, 1, 1}, step{now, 25, 25, 25})
		if _, e := short.Settle(now, 50, 0); e != api.OK {
			t.Fatal(now, e)
		}
		if len(short.lows)+len(short.highs) > 0 || len(short.grown.moments) > 10 || len(short.shrunk.moments) > 20 {
			t.Fatalf("at %d too much is kept: %v", now, short)
		}
	}
	free := New(api.Pace{Pods: 1}, api.Pace{Period: 100000})
	for now := range 1000 {
		settle(t, free, step{now, 0, 50, 50}, step{now, 50, 0, 0})
	}
	if len(free.grown.moments)+len(free.shrunk.moments) > 0 {
		t.Error("what no pace asks is kept")
	}
}

func FuzzP16(f *testing.F) {
	f.Add(3, 2, 0, 5, 4, 0, 50, 10, []byte{0, 1, 9, 1, 3, 9, 4, 3, 9, 1, 5, 6, 1, 5, 1, 4, 8, 1, 1, 4, 1, 18, 4, 1})
	f.Add(0, 10, 0, 5, 0, 0, 50, 5, []byte{0, 0, 10, 1, 2, 50, 1, 50, 0, 0, 50, 0, 1, 50, 0})
	f.Add(-1, 1<<60, 100001, 100000, math.MaxInt, math.MinInt, 99, 7, []byte{255, 50, 0, 0, 50, 0, 200, 51, 255})
	f.Fuzz(func(t *testing.T, upWindow, upPods, upPercent, upPeriod, downWindow, downPods, downPercent, downPeriod int, calls []byte) {
		up := api.Pace{Window: upWindow, Pods: upPods, Percent: upPercent, Period: upPeriod}
		down := api.Pace{Window: downWindow, Pods: downPods, Percent: downPercent, Period: downPeriod}
		s, m := New(up, down), newModel(up, down)
		now := 0
		for ; len(calls) > 2 && len(m.calls) < 300; calls = calls[3:] {
			now += int(int8(calls[0]))
			both(t, s, m, now, int(calls[1]), int(calls[2]))
		}
	})
}
